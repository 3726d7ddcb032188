/- J8, J9, K0 as one. -/
import Derived.Test.YtnghehcjklkoeaaJ7
/- Has a statement all of its parts that are not nothing? -/
namespace Go.Proofs.Ytnghehcjklkoeaa
open Go.RowKit

def zexB (op : Int) (wd : Nat) (nm : List UInt8) (al : Nat) : Bool := (op == 0) && (((wd : Nat) : Int) == 0) && nm.isEmpty && (((al : Nat) : Int) == 0)
set_option maxHeartbeats 800000 in
theorem zeroC_any (op : Int) (wd : Nat) (nm : List UInt8) (p : Option Addr) (al ac b o : Nat) (w : World) (c0 : w.cell? ⟨b, o, none⟩ = some (.int .i64 op)) (c1 : w.cell? ⟨b, o + 1, none⟩ = some (.int .u64 (wd : Int))) (c2 : w.cell? ⟨b, o + 2, none⟩ = some (.string (str nm))) (c3 : w.cell? ⟨b, o + 3, none⟩ = some (.slice p al ac)) :
    Calls Try.prog 92 #[.pointer (some ⟨b, o, none⟩)] w fun z w' => z = .returned (.bool (zexB op wd nm al)) ∧ w = w' := by
  have e3 : (str nm).toList.isEmpty = nm.isEmpty := by rw [Lib.toList_data, str_data]
  unfold zexB
  generalize e1 : (op == 0) = t1
  generalize e2 : (((wd : Nat) : Int) == 0) = t2
  generalize nm.isEmpty = t3 at e3
  generalize e4 : (((al : Nat) : Int) == 0) = t4
  cases t1 <;> cases t2 <;> cases t3 <;> cases t4 <;>
  · go_enter Try.func92, Try.ntmps92
    go_wp2
    go_ret
    exact ⟨rfl, rfl⟩
def stC (k : Int) (nm : List UInt8) (np : Option Addr) (nl nc : Nat) (eo : Int) (ew : Nat) (en : List UInt8) (ep : Option Addr) (el ec : Nat) (ao : Int) (aw : Nat) (an : List UInt8) (ap : Option Addr) (al ac : Nat) (gp : Option Addr) (gl gc : Nat) (lo hi : Nat) (bp : Option Addr) (bl bc : Nat) (lp : Option Addr) (ll lc : Nat) : Array Value :=
  #[.int .i64 k, .string (str nm), .slice np nl nc, .int .i64 eo, .int .u64 (ew : Int), .string (str en), .slice ep el ec, .int .i64 ao, .int .u64 (aw : Int), .string (str an), .slice ap al ac, .slice gp gl gc, .int .u64 (lo : Int), .int .u64 (hi : Int), .slice bp bl bc, .slice lp ll lc]
def zstB (k : Int) (nm : List UInt8) (nl : Nat) (e a : Bool) (gl lo hi bl ll : Nat) : Bool := (k == 0) && (nm.isEmpty && (((nl : Int) == 0) && (e && (a && (((gl : Int) == 0) && (((lo : Int) == 0) && (((hi : Int) == 0) && (((bl : Int) == 0) && ((ll : Int) == 0)))))))))
set_option maxRecDepth 100000 in
set_option maxHeartbeats 12800000 in
theorem zeroS_any (k : Int) (nm : List UInt8) (np : Option Addr) (nl nc : Nat) (eo : Int) (ew : Nat) (en : List UInt8) (ep : Option Addr) (el ec : Nat) (ao : Int) (aw : Nat) (an : List UInt8) (ap : Option Addr) (al ac : Nat) (gp : Option Addr) (gl gc : Nat) (lo hi : Nat) (bp : Option Addr) (bl bc : Nat) (lp : Option Addr) (ll lc : Nat) (g : Nat) (w : World)
    (h : w.heap[g]? = some (.cells (stC k nm np nl nc eo ew en ep el ec ao aw an ap al ac gp gl gc lo hi bp bl bc lp ll lc) 49 (0, 0))) :
    Calls Try.prog 97 #[.pointer (some ⟨g, 0, none⟩)] w fun z w' => z = .returned (.bool (zstB k nm nl (zexB eo ew en el) (zexB ao aw an al) gl lo hi bl ll)) ∧ w = w' := by
  unfold stC at h
  have HE := Lib.hid (zeroC_any eo ew en ep el ec g 3 w (cell_blk h rfl) (cell_blk h rfl) (cell_blk h rfl) (cell_blk h rfl))
  have HA := Lib.hid (zeroC_any ao aw an ap al ac g 7 w (cell_blk h rfl) (cell_blk h rfl) (cell_blk h rfl) (cell_blk h rfl))
  have c0 : w.cell? ⟨g, 0, none⟩ = some (.int .i64 k) := cell_blk h rfl
  have c1 : w.cell? ⟨g, 1, none⟩ = some (.string (str nm)) := cell_blk h rfl
  have c2 : w.cell? ⟨g, 2, none⟩ = some (.slice np nl nc) := cell_blk h rfl
  have c11 : w.cell? ⟨g, 11, none⟩ = some (.slice gp gl gc) := cell_blk h rfl
  have c12 : w.cell? ⟨g, 12, none⟩ = some (.int .u64 (lo : Int)) := cell_blk h rfl
  have c13 : w.cell? ⟨g, 13, none⟩ = some (.int .u64 (hi : Int)) := cell_blk h rfl
  have c14 : w.cell? ⟨g, 14, none⟩ = some (.slice bp bl bc) := cell_blk h rfl
  have c15 : w.cell? ⟨g, 15, none⟩ = some (.slice lp ll lc) := cell_blk h rfl
  have e1 : (str nm).toList.isEmpty = nm.isEmpty := by rw [Lib.toList_data, str_data]
  unfold zstB
  generalize zexB eo ew en el = t3 at HE ⊢
  generalize zexB ao aw an al = t4 at HA ⊢
  generalize e0 : (k == 0) = t0
  generalize nm.isEmpty = t1 at e1 ⊢
  generalize e2 : ((nl : Int) == 0) = t2
  generalize e5 : ((gl : Int) == 0) = t5
  generalize e6 : ((lo : Int) == 0) = t6
  generalize e7 : ((hi : Int) == 0) = t7
  generalize e8 : ((bl : Int) == 0) = t8
  generalize e9 : ((ll : Int) == 0) = t9
  clear h
  cases t0
  · go_enter Try.func97, Try.ntmps97
    go_wp2_with fail
    go_ret
    exact ⟨rfl, rfl⟩
  cases t1
  · go_enter Try.func97, Try.ntmps97
    go_wp2_with fail
    go_ret
    exact ⟨rfl, rfl⟩
  cases t2
  · go_enter Try.func97, Try.ntmps97
    go_wp2_with fail
    go_ret
    exact ⟨rfl, rfl⟩
  cases t3
  · go_enter Try.func97, Try.ntmps97
    go_wp2_with fail
    refine HE.out.mono ?_
    rintro e w' ⟨rfl, rfl⟩
    go_wp2_with fail
    go_ret
    exact ⟨rfl, rfl⟩
  cases t4
  · go_enter Try.func97, Try.ntmps97
    go_wp2_with fail
    refine HE.out.mono ?_
    rintro e w' ⟨rfl, rfl⟩
    go_wp2_with fail
    refine HA.out.mono ?_
    rintro e w' ⟨rfl, rfl⟩
    go_wp2_with fail
    go_ret
    exact ⟨rfl, rfl⟩
  cases t5
  · go_enter Try.func97, Try.ntmps97
    go_wp2_with fail
    refine HE.out.mono ?_
    rintro e w' ⟨rfl, rfl⟩
    go_wp2_with fail
    refine HA.out.mono ?_
    rintro e w' ⟨rfl, rfl⟩
    go_wp2_with fail
    go_ret
    exact ⟨rfl, rfl⟩
  cases t6
  · go_enter Try.func97, Try.ntmps97
    go_wp2_with fail
    refine HE.out.mono ?_
    rintro e w' ⟨rfl, rfl⟩
    go_wp2_with fail
    refine HA.out.mono ?_
    rintro e w' ⟨rfl, rfl⟩
    go_wp2_with fail
    go_ret
    exact ⟨rfl, rfl⟩
  cases t7
  · go_enter Try.func97, Try.ntmps97
    go_wp2_with fail
    refine HE.out.mono ?_
    rintro e w' ⟨rfl, rfl⟩
    go_wp2_with fail
    refine HA.out.mono ?_
    rintro e w' ⟨rfl, rfl⟩
    go_wp2_with fail
    go_ret
    exact ⟨rfl, rfl⟩
  cases t8
  · go_enter Try.func97, Try.ntmps97
    go_wp2_with fail
    refine HE.out.mono ?_
    rintro e w' ⟨rfl, rfl⟩
    go_wp2_with fail
    refine HA.out.mono ?_
    rintro e w' ⟨rfl, rfl⟩
    go_wp2_with fail
    go_ret
    exact ⟨rfl, rfl⟩
  cases t9
  · go_enter Try.func97, Try.ntmps97
    go_wp2_with fail
    refine HE.out.mono ?_
    rintro e w' ⟨rfl, rfl⟩
    go_wp2_with fail
    refine HA.out.mono ?_
    rintro e w' ⟨rfl, rfl⟩
    go_wp2_with fail
    go_ret
    exact ⟨rfl, rfl⟩
  go_enter Try.func97, Try.ntmps97
  go_wp2_with fail
  refine HE.out.mono ?_
  rintro e w' ⟨rfl, rfl⟩
  go_wp2_with fail
  refine HA.out.mono ?_
  rintro e w' ⟨rfl, rfl⟩
  go_wp2_with fail
  go_ret
  exact ⟨rfl, rfl⟩
def St.tst (x : St) (s : StP) : Array Value := stC x.kind x.name s.pn x.names.length s.cn x.e.op x.e.word x.e.name s.pe x.e.args.len s.ce x.a.op x.a.word x.a.name s.pa x.a.args.len s.ca s.pg x.args.len s.cg x.low x.high s.pb x.body.len s.cb s.pl x.els.len s.cl
end Go.Proofs.Ytnghehcjklkoeaa
/- hasOwnParts. -/
namespace Go.Proofs.Ytnghehcjklkoeaa
open Go.RowKit

theorem St.cells_stC (x : St) (s : StP) : x.cells s = stC x.kind x.name s.pn x.names.length s.cn x.e.op x.e.word x.e.name s.pe x.e.args.len s.ce x.a.op x.a.word x.a.name s.pa x.a.args.len s.ca s.pg x.args.len s.cg x.low x.high s.pb x.body.len s.cb s.pl x.els.len s.cl := rfl
/-- nothing in the parts that a kind does not have -/
def ownK (k : Int) (nm : List UInt8) (nl : Nat) (e a : Bool) (gl lo hi bl ll : Nat) : Bool :=
  if k = 2 then zstB 0 [] nl true true gl lo hi bl ll
  else if k = 1 then zstB 0 [] nl true a gl lo hi bl ll
  else if k = 3 then zstB 0 nm nl true a gl lo hi 0 0
  else if k = 4 then zstB 0 nm nl true a gl lo hi 0 ll
  else if k = 5 then zstB 0 [] nl e a gl 0 0 0 ll
  else if k = 6 then zstB 0 [] 0 e a 0 lo hi bl ll
  else false
def ownP (x : St) : Bool := ownK x.kind x.name x.names.length (zexB x.e.op x.e.word x.e.name x.e.args.len) (zexB x.a.op x.a.word x.a.name x.a.args.len) x.args.len x.low x.high x.body.len x.els.len
set_option maxRecDepth 100000 in
set_option maxHeartbeats 12800000 in
theorem hasOwn_any (x : St) (s : StP) (w : World) :
    Calls Try.prog 81 #[.agg (x.cells s)] w fun z w' => z = .returned (.bool (ownP x)) ∧ Below w.heap.size w w' := by
  obtain ⟨k, nm, ns, ⟨eo, ew, en, ea⟩, ⟨ao, aw, an, aa⟩, gs, lo, hi, bd, el⟩ := x
  obtain ⟨pn, pe, pa, pg, pb, pl, cn, ce, ca, cg, cb, cl⟩ := s
  unfold St.cells ownP
  simp only [St.kind, St.name, St.names, St.e, St.a, St.args, St.low, St.high, St.body, St.els, Ex.op, Ex.word, Ex.name, Ex.args]
  generalize ns.length = nl
  generalize ea.len = eal
  generalize aa.len = aal
  generalize gs.len = gl
  generalize bd.len = bl
  generalize el.len = ll
  have HZ := Lib.hid zeroS_any
  by_cases h2 : k = 2
  · subst h2
    go_enter Try.func81, Try.ntmps81
    go_wp2_with fail
    have hk := heap_alloc_new w (.cells (stC 0 [] pn nl cn 0 0 [] none 0 0 0 0 [] none 0 0 pg gl cg lo hi pb bl cb pl ll cl) 49)
    refine (HZ.out 0 [] pn nl cn 0 0 [] none 0 0 0 0 [] none 0 0 pg gl cg lo hi pb bl cb pl ll cl _ _ hk).mono ?_
    rintro z w' ⟨rfl, rfl⟩
    go_wp2_with fail
    go_ret
    exact ⟨ret_bool (by simp [ownK, zexB]), (Below.refl _ _).alloc (Nat.le_refl _) _⟩
  by_cases h1 : k = 1
  · subst h1
    go_enter Try.func81, Try.ntmps81
    go_wp2_with fail
    have hk := heap_alloc_new w (.cells (stC 0 [] pn nl cn 0 0 [] none 0 0 ao aw an pa aal ca pg gl cg lo hi pb bl cb pl ll cl) 49)
    refine (HZ.out 0 [] pn nl cn 0 0 [] none 0 0 ao aw an pa aal ca pg gl cg lo hi pb bl cb pl ll cl _ _ hk).mono ?_
    rintro z w' ⟨rfl, rfl⟩
    go_wp2_with fail
    go_ret
    exact ⟨ret_bool (by simp [ownK, zexB]), (Below.refl _ _).alloc (Nat.le_refl _) _⟩
  by_cases h3 : k = 3
  · subst h3
    go_enter Try.func81, Try.ntmps81
    go_wp2_with fail
    have hk := heap_alloc_new w (.cells (stC 0 nm pn nl cn 0 0 [] none 0 0 ao aw an pa aal ca pg gl cg lo hi none 0 0 none 0 0) 49)
    refine (HZ.out 0 nm pn nl cn 0 0 [] none 0 0 ao aw an pa aal ca pg gl cg lo hi none 0 0 none 0 0 _ _ hk).mono ?_
    rintro z w' ⟨rfl, rfl⟩
    go_wp2_with fail
    go_ret
    exact ⟨ret_bool (by simp [ownK, zexB]), (Below.refl _ _).alloc (Nat.le_refl _) _⟩
  by_cases h4 : k = 4
  · subst h4
    go_enter Try.func81, Try.ntmps81
    go_wp2_with fail
    have hk := heap_alloc_new w (.cells (stC 0 nm pn nl cn 0 0 [] none 0 0 ao aw an pa aal ca pg gl cg lo hi none 0 0 pl ll cl) 49)
    refine (HZ.out 0 nm pn nl cn 0 0 [] none 0 0 ao aw an pa aal ca pg gl cg lo hi none 0 0 pl ll cl _ _ hk).mono ?_
    rintro z w' ⟨rfl, rfl⟩
    go_wp2_with fail
    go_ret
    exact ⟨ret_bool (by simp [ownK, zexB]), (Below.refl _ _).alloc (Nat.le_refl _) _⟩
  by_cases h5 : k = 5
  · subst h5
    go_enter Try.func81, Try.ntmps81
    go_wp2_with fail
    have hk := heap_alloc_new w (.cells (stC 0 [] pn nl cn eo ew en pe eal ce ao aw an pa aal ca pg gl cg 0 0 none 0 0 pl ll cl) 49)
    refine (HZ.out 0 [] pn nl cn eo ew en pe eal ce ao aw an pa aal ca pg gl cg 0 0 none 0 0 pl ll cl _ _ hk).mono ?_
    rintro z w' ⟨rfl, rfl⟩
    go_wp2_with fail
    go_ret
    exact ⟨ret_bool (by simp [ownK, zexB]), (Below.refl _ _).alloc (Nat.le_refl _) _⟩
  by_cases h6 : k = 6
  · subst h6
    go_enter Try.func81, Try.ntmps81
    go_wp2_with fail
    have hk := heap_alloc_new w (.cells (stC 0 [] none 0 0 eo ew en pe eal ce ao aw an pa aal ca none 0 0 lo hi pb bl cb pl ll cl) 49)
    refine (HZ.out 0 [] none 0 0 eo ew en pe eal ce ao aw an pa aal ca none 0 0 lo hi pb bl cb pl ll cl _ _ hk).mono ?_
    rintro z w' ⟨rfl, rfl⟩
    go_wp2_with fail
    go_ret
    exact ⟨ret_bool (by simp [ownK, zexB]), (Below.refl _ _).alloc (Nat.le_refl _) _⟩
  have e2 : (k == 2) = false := by simp [h2]
  have e1 : (k == 1) = false := by simp [h1]
  have e3 : (k == 3) = false := by simp [h3]
  have e4 : (k == 4) = false := by simp [h4]
  have e5 : (k == 5) = false := by simp [h5]
  have e6 : (k == 6) = false := by simp [h6]
  go_enter Try.func81, Try.ntmps81
  go_wp2_with fail
  go_ret
  exact ⟨ret_bool (by simp [ownK, h1, h2, h3, h4, h5, h6]), (Below.refl _ _).alloc (Nat.le_refl _) _⟩
end Go.Proofs.Ytnghehcjklkoeaa
/- append onto what was clipped; placeIn's value. -/
namespace Go.Proofs.Ytnghehcjklkoeaa
open Go.RowKit

def strCells (l : List (List UInt8)) : List Value := l.map fun s => .string (str s)
theorem str_list {w : World} : ∀ (l : List (List UInt8)) (b o : Nat), Row (StrAt w) 1 l b o → ∀ j u, (strCells l)[j]? = some u → w.cell? ⟨b, o + j, none⟩ = some u
  | [], _, _, _, j, u, h => by simp [strCells] at h
  | x :: l, b, o, h, 0, u, hu => by simp [strCells] at hu; subst hu; exact h.1
  | x :: l, b, o, h, j + 1, u, hu => by
    have := str_list l b (o + 1) h.2 j u (by simpa [strCells] using hu)
    rw [show o + (j + 1) = o + 1 + j by omega]; exact this
theorem str_of {w : World} : ∀ (l : List (List UInt8)) (b o : Nat), (∀ j u, (strCells l)[j]? = some u → w.cell? ⟨b, o + j, none⟩ = some u) → Row (StrAt w) 1 l b o
  | [], _, _, _ => trivial
  | x :: l, b, o, h => ⟨h 0 _ (by simp [strCells]), str_of l b (o + 1) fun j u hu => by
    have := h (j + 1) u (by simpa [strCells] using hu)
    rw [show o + (j + 1) = o + 1 + j by omega] at this; exact this⟩
theorem infoStr : (Try.prog.info? 9).map (fun i => (i.zero, i.size, i.bytes)) = some (some (.string ⟨#[]⟩), 1, 16) := by kernel_rfl
theorem clip_append (l : List (List UInt8)) (nm : List UInt8) (p : Option Addr) (g N : Nat) (w : World) (h : RowIn N (StrAt w) 1 l p) (hg : w.cell? ⟨g, 0, none⟩ = some (.string (str nm))) (hl : l.length ≤ 1000) (ty : TypeId) :
    ∃ w2 c2, (Builtin.append_ #[46, 46] ty #[.slice p l.length l.length, .slice (some ⟨g, 0, none⟩) 1 1]).run Try.prog w = .ok (.slice (some ⟨w.heap.size, 0, none⟩) (l.length + 1) c2) w2 ∧ RowIn w2.heap.size (StrAt w2) 1 (l ++ [nm]) (some ⟨w.heap.size, 0, none⟩) ∧ l.length + 1 ≤ c2 ∧ Below w.heap.size w w2 := by
  obtain ⟨i0, hi, hz0, hz1, hz2⟩ := info_parts infoStr
  have key : ∀ (Z : Array Value) (w2 : World), w2 = w.drew.alloc (.cells ((strCells l).toArray ++ #[.string (str nm)] ++ Z) 9) → RowIn w2.heap.size (StrAt w2) 1 (l ++ [nm]) (some ⟨w.heap.size, 0, none⟩) ∧ Below w.heap.size w w2 := by
    rintro Z w2 rfl
    refine ⟨⟨by simp; omega, .inr ⟨w.heap.size, 0, rfl, by simp, str_of _ _ _ fun j u hu => ?_⟩⟩, (Below.refl _ w).drew.alloc (Nat.le_refl _) _⟩
    rw [Nat.zero_add]
    refine cell_blk (heap_alloc_new w.drew _) ?_
    have hj : j < (strCells (l ++ [nm])).length := (List.getElem?_eq_some_iff.1 hu).1
    have e : (strCells l).toArray ++ #[Value.string (str nm)] = (strCells (l ++ [nm])).toArray := by simp [strCells]
    rw [e, Array.getElem?_append_left (by simpa using hj), List.getElem?_toArray]
    exact hu
  cases p with
  | none =>
    have h0 : l.length = 0 := by
      rcases h.2 with h0 | ⟨b, o, hp, _⟩
      · exact h0
      · cases hp
    obtain rfl : l = [] := List.eq_nil_of_length_eq_zero h0
    have hr := run_append_nil (P := Try.prog) (w := w) 46 ty 9 i0 _ Try.underlying46 hi hz0 ⟨g, 0, none⟩ 1 1 [.string (str nm)] (by rw [hz1]; rfl) (fun j v hv => by
      match j, hv with
      | 0, hv => simp at hv; subst hv; simpa [Addr.add] using hg) (by omega) (by omega) (by rw [hz2]; omega)
    have hge := grownCap_ge w 1 0 9
    obtain ⟨k1, k2⟩ := key _ _ (by simp [strCells]; rfl)
    exact ⟨_, _, hr, k1, by simpa using hge, k2⟩
  | some b =>
    have holds : ∀ j v, (strCells l)[j]? = some v → w.cell? (b.add j) = some v := by
      intro j v hv
      rcases h.2 with h0 | ⟨bb, o, hp, _, ha⟩
      · obtain rfl : l = [] := List.eq_nil_of_length_eq_zero h0
        simp [strCells] at hv
      · cases hp
        rw [add_of]
        exact str_list l bb o ha j v hv
    have hr := run_append_grow (P := Try.prog) (w := w) 46 ty 9 i0 _ Try.underlying46 hi hz0 b l.length l.length (strCells l) (by rw [hz1]; simp [strCells]) holds ⟨g, 0, none⟩ 1 1 [.string (str nm)] (by rw [hz1]; rfl) (fun j v hv => by
      match j, hv with
      | 0, hv => simp at hv; subst hv; simpa [Addr.add] using hg) (by omega) (by omega) (by rw [hz2]; have := nextslicecap_le (need := l.length + 1) (old := l.length) (by omega); omega)
    have hge := grownCap_ge w (l.length + 1) l.length 9
    obtain ⟨k1, k2⟩ := key _ _ rfl
    exact ⟨_, _, hr, k1, hge, k2⟩
theorem clip_any (l : List (List UInt8)) (p : Option Addr) (c : Nat) (w : World) (hc : l.length ≤ c) (_hl : l.length ≤ 1000) : Calls Try.prog 105 #[.slice p l.length c] w fun z w' => z = .returned (.slice p l.length l.length) ∧ w = w' := by
  cases p with
  | none =>
    go_enter Try.func105, Try.ntmps105
    go_wp2_with fail
    go_ret
    exact ⟨rfl, rfl⟩
  | some a =>
    go_enter Try.func105, Try.ntmps105
    go_wp2_with fail
    go_ret
    exact ⟨rfl, rfl⟩
end Go.Proofs.Ytnghehcjklkoeaa
