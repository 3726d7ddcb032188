/- hasOwnParts. -/
import Derived.Test.YtldjcnpkgbdlpaaJ8
namespace Go.Proofs.Ytldjcnpkgbdlpaa
open Go.RowKit

theorem St.cells_stC (x : St) (s : StP) : x.cells s = stC x.kind x.name s.pn x.names.length s.cn x.e.op x.e.word x.e.name s.pe x.e.args.len s.ce x.a.op x.a.word x.a.name s.pa x.a.args.len s.ca s.pg x.args.len s.cg x.low x.high s.pb x.body.len s.cb s.pl x.els.len s.cl := rfl
/-- nothing in the parts that a kind does not have -/
def ownK (k : Int) (nm : List UInt8) (nl : Nat) (e a : Bool) (gl lo hi bl ll : Nat) : Bool :=
  if k = 2 then zstB 0 [] nl true true gl lo hi bl ll
  else if k = 1 then zstB 0 [] nl true a gl lo hi bl ll
  else if k = 3 then zstB 0 nm nl true a gl lo hi 0 0
  else if k = 4 then zstB 0 nm nl true a gl lo hi 0 ll
  else if k = 5 then zstB 0 [] nl e a gl 0 0 0 ll
  else if k = 6 then zstB 0 [] 0 e a 0 lo hi bl ll
  else false
def ownP (x : St) : Bool := ownK x.kind x.name x.names.length (zexB x.e.op x.e.word x.e.name x.e.args.len) (zexB x.a.op x.a.word x.a.name x.a.args.len) x.args.len x.low x.high x.body.len x.els.len
set_option maxRecDepth 100000 in
set_option maxHeartbeats 12800000 in
theorem hasOwn_any (x : St) (s : StP) (w : World) :
    Calls Try.prog 68 #[.agg (x.cells s)] w fun z w' => z = .returned (.bool (ownP x)) ∧ Below w.heap.size w w' := by
  obtain ⟨k, nm, ns, ⟨eo, ew, en, ea⟩, ⟨ao, aw, an, aa⟩, gs, lo, hi, bd, el⟩ := x
  obtain ⟨pn, pe, pa, pg, pb, pl, cn, ce, ca, cg, cb, cl⟩ := s
  unfold St.cells ownP
  simp only [St.kind, St.name, St.names, St.e, St.a, St.args, St.low, St.high, St.body, St.els, Ex.op, Ex.word, Ex.name, Ex.args]
  generalize ns.length = nl
  generalize ea.len = eal
  generalize aa.len = aal
  generalize gs.len = gl
  generalize bd.len = bl
  generalize el.len = ll
  have HZ := Lib.hid zeroS_any
  by_cases h2 : k = 2
  · subst h2
    go_enter Try.func68, Try.ntmps68
    go_wp2_with fail
    have hk := heap_alloc_new w (.cells (stC 0 [] pn nl cn 0 0 [] none 0 0 0 0 [] none 0 0 pg gl cg lo hi pb bl cb pl ll cl) 49)
    refine (HZ.out 0 [] pn nl cn 0 0 [] none 0 0 0 0 [] none 0 0 pg gl cg lo hi pb bl cb pl ll cl _ _ hk).mono ?_
    rintro z w' ⟨rfl, rfl⟩
    go_wp2_with fail
    go_ret
    exact ⟨ret_bool (by simp [ownK, zexB]), (Below.refl _ _).alloc (Nat.le_refl _) _⟩
  by_cases h1 : k = 1
  · subst h1
    go_enter Try.func68, Try.ntmps68
    go_wp2_with fail
    have hk := heap_alloc_new w (.cells (stC 0 [] pn nl cn 0 0 [] none 0 0 ao aw an pa aal ca pg gl cg lo hi pb bl cb pl ll cl) 49)
    refine (HZ.out 0 [] pn nl cn 0 0 [] none 0 0 ao aw an pa aal ca pg gl cg lo hi pb bl cb pl ll cl _ _ hk).mono ?_
    rintro z w' ⟨rfl, rfl⟩
    go_wp2_with fail
    go_ret
    exact ⟨ret_bool (by simp [ownK, zexB]), (Below.refl _ _).alloc (Nat.le_refl _) _⟩
  by_cases h3 : k = 3
  · subst h3
    go_enter Try.func68, Try.ntmps68
    go_wp2_with fail
    have hk := heap_alloc_new w (.cells (stC 0 nm pn nl cn 0 0 [] none 0 0 ao aw an pa aal ca pg gl cg lo hi none 0 0 none 0 0) 49)
    refine (HZ.out 0 nm pn nl cn 0 0 [] none 0 0 ao aw an pa aal ca pg gl cg lo hi none 0 0 none 0 0 _ _ hk).mono ?_
    rintro z w' ⟨rfl, rfl⟩
    go_wp2_with fail
    go_ret
    exact ⟨ret_bool (by simp [ownK, zexB]), (Below.refl _ _).alloc (Nat.le_refl _) _⟩
  by_cases h4 : k = 4
  · subst h4
    go_enter Try.func68, Try.ntmps68
    go_wp2_with fail
    have hk := heap_alloc_new w (.cells (stC 0 nm pn nl cn 0 0 [] none 0 0 ao aw an pa aal ca pg gl cg lo hi none 0 0 pl ll cl) 49)
    refine (HZ.out 0 nm pn nl cn 0 0 [] none 0 0 ao aw an pa aal ca pg gl cg lo hi none 0 0 pl ll cl _ _ hk).mono ?_
    rintro z w' ⟨rfl, rfl⟩
    go_wp2_with fail
    go_ret
    exact ⟨ret_bool (by simp [ownK, zexB]), (Below.refl _ _).alloc (Nat.le_refl _) _⟩
  by_cases h5 : k = 5
  · subst h5
    go_enter Try.func68, Try.ntmps68
    go_wp2_with fail
    have hk := heap_alloc_new w (.cells (stC 0 [] pn nl cn eo ew en pe eal ce ao aw an pa aal ca pg gl cg 0 0 none 0 0 pl ll cl) 49)
    refine (HZ.out 0 [] pn nl cn eo ew en pe eal ce ao aw an pa aal ca pg gl cg 0 0 none 0 0 pl ll cl _ _ hk).mono ?_
    rintro z w' ⟨rfl, rfl⟩
    go_wp2_with fail
    go_ret
    exact ⟨ret_bool (by simp [ownK, zexB]), (Below.refl _ _).alloc (Nat.le_refl _) _⟩
  by_cases h6 : k = 6
  · subst h6
    go_enter Try.func68, Try.ntmps68
    go_wp2_with fail
    have hk := heap_alloc_new w (.cells (stC 0 [] none 0 0 eo ew en pe eal ce ao aw an pa aal ca none 0 0 lo hi pb bl cb pl ll cl) 49)
    refine (HZ.out 0 [] none 0 0 eo ew en pe eal ce ao aw an pa aal ca none 0 0 lo hi pb bl cb pl ll cl _ _ hk).mono ?_
    rintro z w' ⟨rfl, rfl⟩
    go_wp2_with fail
    go_ret
    exact ⟨ret_bool (by simp [ownK, zexB]), (Below.refl _ _).alloc (Nat.le_refl _) _⟩
  have e2 : (k == 2) = false := by simp [h2]
  have e1 : (k == 1) = false := by simp [h1]
  have e3 : (k == 3) = false := by simp [h3]
  have e4 : (k == 4) = false := by simp [h4]
  have e5 : (k == 5) = false := by simp [h5]
  have e6 : (k == 6) = false := by simp [h6]
  go_enter Try.func68, Try.ntmps68
  go_wp2_with fail
  go_ret
  exact ⟨ret_bool (by simp [ownK, h1, h2, h3, h4, h5, h6]), (Below.refl _ _).alloc (Nat.le_refl _) _⟩
end Go.Proofs.Ytldjcnpkgbdlpaa
