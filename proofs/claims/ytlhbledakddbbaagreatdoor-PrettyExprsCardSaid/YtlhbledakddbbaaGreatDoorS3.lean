/- Statements, functions and programs that come in. -/
import Derived.Test.YtlhbledakddbbaaGreatDoorS2
namespace Go.Proofs.YtlhbledakddbbaaGreatDoor
open Go.ChangeShapes Go.WideShapes Go.ChangeAt Go.RowKit

section
variable {H : Type} {enc : TypeId × Value → H} {w : World}
theorem five {α : Type} {cs : List α} (h : cs.length = 5) : ∃ a b c d e, cs = [a, b, c, d, e] := by
  match cs, h with
  | [a, b, c, d, e], _ => exact ⟨a, b, c, d, e, rfl⟩
theorem twoL {α : Type} {cs : List α} (h : cs.length = 2) : ∃ a b, cs = [a, b] := by
  match cs, h with
  | [a, b], _ => exact ⟨a, b, rfl⟩
theorem sixteen {α : Type} {cs : List α} (h : cs.length = 16) : ∃ a b c d e f g h i j k l m n o p, cs = [a, b, c, d, e, f, g, h, i, j, k, l, m, n, o, p] := by
  match cs, h with
  | [a, b, c, d, e, f, g, h, i, j, k, l, m, n, o, p], _ => exact ⟨a, b, c, d, e, f, g, h, i, j, k, l, m, n, o, p, rfl⟩
theorem St.At.mk' {B b o : Nat} {x : St} {s : StP} (h : ∀ j v, (x.cells s)[j]? = some v → w.cell? ⟨b, o + j, none⟩ = some v) (hok : x.Ok w B s) : x.At w B b o := by
  obtain ⟨kd, nm, ns, e, a, as', lo, hi, bd, el⟩ := x
  obtain ⟨s1, he, ha, s2, s3, s4, h4, h5⟩ := hok
  exact ⟨⟨h 0 _ rfl, h 1 _ rfl, h 12 _ rfl, h 13 _ rfl, h4, h5⟩, ⟨_, _, h 2 _ rfl, s1⟩, Ex.At.mk' (h 3 _ rfl) (h 4 _ rfl) (h 5 _ rfl) (h 6 _ rfl) he, Ex.At.mk' (h 7 _ rfl) (h 8 _ rfl) (h 9 _ rfl) (h 10 _ rfl) ha,
    ⟨_, _, h 11 _ rfl, s2⟩, ⟨_, _, h 14 _ rfl, s3⟩, ⟨_, _, h 15 _ rfl, s4⟩⟩
theorem cells_at {b o k : Nat} {A : Array Value} (hA : A.size = k) (hc : ∀ j, j < k → w.cell? ⟨b, o + j, none⟩ = A.toList[j]?) : ∀ j v, A[j]? = some v → w.cell? ⟨b, o + j, none⟩ = some v := by
  intro j v hv
  have hj : j < A.size := (Array.getElem?_eq_some_iff.1 hv).1
  rw [hc j (by omega), Array.getElem?_toList, hv]
theorem open_st : ∀ (fuel : Nat) (cs : List Value) (x : DataW H × List MemPlace), DataW.trod enc Tryz.prog w 0 (fun _ => true) true fuel 54 cs = some x → Wide 54 x.1 →
    ∃ (e : St) (s : StP), cs = (e.cells s).toList ∧ e.Ok w w.heap.size s := by
  intro fuel
  induction fuel using Nat.strongRecOn with
  | ind fuel ih =>
    intro cs x h hw
    have key : ∀ (fl : Nat), fl < fuel → ∀ (cs : List Value) (x : DataW H × List MemPlace), DataW.trod enc Tryz.prog w 0 (fun _ => true) true fl 47 cs = some x → Wide 47 x.1 →
        ∃ (l : Sts) (p : Option Addr) (c : Nat), cs = [.slice p l.len c] ∧ l.In w w.heap.size p := by
      intro fl hfl cs x h hw
      obtain ⟨m, p, len, cap, hn, rfl, hlen, hel⟩ := slice_opn cellsSt (by decide) (by decide +kernel) Tryz.underlying47 h hw
      obtain ⟨l, rfl, hin⟩ : ∃ l : Sts, l.len = len ∧ l.In w w.heap.size p := by
        rcases hel with h0 | ⟨bb, off, rfl, hbl, hel⟩
        · exact ⟨.nil, h0.symm, by simp [Sts.len], .inl rfl⟩
        · obtain ⟨l, hl, hr⟩ := Sts.of (w := w) (B := w.heap.size) (b := bb) len off fun i hi => by
            obtain ⟨cs', y, hl, hc, hr, hy⟩ := hel i hi
            obtain ⟨e, s, rfl, hok⟩ := ih m (by omega) cs' y hr hy
            exact ⟨e, St.At.mk' (cells_at (A := e.cells s) rfl hc) hok⟩
          exact ⟨l, hl, by rw [hl]; exact hlen, .inr ⟨bb, off, rfl, hbl, hr⟩⟩
      exact ⟨l, p, cap, rfl, hin⟩
    obtain ⟨n, rfl, hl, hf⟩ := struct_opn Tryz.underlying54 h hw
    rw [cellsSt] at hl
    obtain ⟨c0, c1, c2, c3, c4, c5, c6, c7, c8, c9, c10, c11, c12, c13, c14, c15, rfl⟩ := sixteen hl
    obtain ⟨y0, h0, w0⟩ := hf 0 _ rfl
    obtain ⟨y1, h1, w1⟩ := hf 1 _ rfl
    obtain ⟨y2, h2, w2⟩ := hf 2 _ rfl
    obtain ⟨y3, h3, w3⟩ := hf 3 _ rfl
    obtain ⟨y4, h4, w4⟩ := hf 4 _ rfl
    obtain ⟨y5, h5, w5⟩ := hf 5 _ rfl
    obtain ⟨y6, h6, w6⟩ := hf 6 _ rfl
    obtain ⟨y7, h7, w7⟩ := hf 7 _ rfl
    obtain ⟨y8, h8, w8⟩ := hf 8 _ rfl
    obtain ⟨y9, h9, w9⟩ := hf 9 _ rfl
    clear hf
    replace h0 : DataW.trod enc Tryz.prog w 0 (fun _ => true) true n 52 (List.take (Tryz.prog.cellsOf 52) [c0, c1, c2, c3, c4, c5, c6, c7, c8, c9, c10, c11, c12, c13, c14, c15]) = some y0 := h0
    replace h1 : DataW.trod enc Tryz.prog w 0 (fun _ => true) true n 9 (List.take (Tryz.prog.cellsOf 9) [c1, c2, c3, c4, c5, c6, c7, c8, c9, c10, c11, c12, c13, c14, c15]) = some y1 := h1
    replace h2 : DataW.trod enc Tryz.prog w 0 (fun _ => true) true n 46 (List.take (Tryz.prog.cellsOf 46) [c2, c3, c4, c5, c6, c7, c8, c9, c10, c11, c12, c13, c14, c15]) = some y2 := h2
    replace h3 : DataW.trod enc Tryz.prog w 0 (fun _ => true) true n 26 (List.take (Tryz.prog.cellsOf 26) [c3, c4, c5, c6, c7, c8, c9, c10, c11, c12, c13, c14, c15]) = some y3 := h3
    replace h4 : DataW.trod enc Tryz.prog w 0 (fun _ => true) true n 26 (List.take (Tryz.prog.cellsOf 26) [c7, c8, c9, c10, c11, c12, c13, c14, c15]) = some y4 := h4
    replace h5 : DataW.trod enc Tryz.prog w 0 (fun _ => true) true n 24 (List.take (Tryz.prog.cellsOf 24) [c11, c12, c13, c14, c15]) = some y5 := h5
    replace h6 : DataW.trod enc Tryz.prog w 0 (fun _ => true) true n 23 (List.take (Tryz.prog.cellsOf 23) [c12, c13, c14, c15]) = some y6 := h6
    replace h7 : DataW.trod enc Tryz.prog w 0 (fun _ => true) true n 23 (List.take (Tryz.prog.cellsOf 23) [c13, c14, c15]) = some y7 := h7
    replace h8 : DataW.trod enc Tryz.prog w 0 (fun _ => true) true n 47 (List.take (Tryz.prog.cellsOf 47) [c14, c15]) = some y8 := h8
    replace h9 : DataW.trod enc Tryz.prog w 0 (fun _ => true) true n 47 (List.take (Tryz.prog.cellsOf 47) [c15]) = some y9 := h9
    rw [cOne _ (by simp)] at h0 h1 h2 h5 h6 h7 h8 h9
    rw [cellsEx] at h3 h4
    obtain ⟨z0, e0, _, _⟩ := opn_int Tryz.underlying52 h0
    obtain ⟨z1, e1⟩ := opn_str Tryz.underlying9 h1
    obtain ⟨ns, pn, cn, e2, hns⟩ := open_strs h2 w2
    obtain ⟨xe, pe, ce, e3, hxe⟩ := open_ex n _ _ h3 w3
    obtain ⟨xa, pa, ca, e4, hxa⟩ := open_ex n _ _ h4 w4
    obtain ⟨gs, pg, cg, e5, hgs⟩ := open_exs h5 w5
    obtain ⟨lo, e6, hlo⟩ := opn_u64 Tryz.underlying23 h6
    obtain ⟨hi, e7, hhi⟩ := opn_u64 Tryz.underlying23 h7
    obtain ⟨bd, pb, cb, e8, hbd⟩ := key n (by omega) _ _ h8 w8
    obtain ⟨el, pl, cl, e9, hel⟩ := key n (by omega) _ _ h9 w9
    simp at e0 e1 e2 e3 e4 e5 e6 e7 e8 e9
    obtain ⟨rfl, rfl, rfl, rfl⟩ := e3
    obtain ⟨rfl, rfl, rfl, rfl⟩ := e4
    subst e0; subst e1; subst e2; subst e5; subst e6; subst e7; subst e8; subst e9
    exact ⟨.mk z0 z1 ns xe xa gs lo hi bd el, ⟨pn, pe, pa, pg, pb, pl, cn, ce, ca, cg, cb, cl⟩, rfl, hns, hxe, hxa, hgs, hbd, hel, hlo, hhi⟩
theorem open_sts {fuel : Nat} {cs : List Value} {x : DataW H × List MemPlace} (h : DataW.trod enc Tryz.prog w 0 (fun _ => true) true fuel 47 cs = some x) (hw : Wide 47 x.1) :
    ∃ (l : Sts) (p : Option Addr) (c : Nat), cs = [.slice p l.len c] ∧ l.In w w.heap.size p := by
  obtain ⟨m, p, len, cap, hn, rfl, hlen, hel⟩ := slice_opn cellsSt (by decide) (by decide +kernel) Tryz.underlying47 h hw
  obtain ⟨l, rfl, hin⟩ : ∃ l : Sts, l.len = len ∧ l.In w w.heap.size p := by
    rcases hel with h0 | ⟨bb, off, rfl, hbl, hel⟩
    · exact ⟨.nil, h0.symm, by simp [Sts.len], .inl rfl⟩
    · obtain ⟨l, hl, hr⟩ := Sts.of (w := w) (B := w.heap.size) (b := bb) len off fun i hi => by
        obtain ⟨cs', y, hl, hc, hr, hy⟩ := hel i hi
        obtain ⟨e, s, rfl, hok⟩ := open_st m cs' y hr hy
        exact ⟨e, St.At.mk' (cells_at (A := e.cells s) rfl hc) hok⟩
      exact ⟨l, hl, by rw [hl]; exact hlen, .inr ⟨bb, off, rfl, hbl, hr⟩⟩
  exact ⟨l, p, cap, rfl, hin⟩
theorem open_vars {fuel : Nat} {cs : List Value} {x : DataW H × List MemPlace} (h : DataW.trod enc Tryz.prog w 0 (fun _ => true) true fuel 45 cs = some x) (hw : Wide 45 x.1) :
    ∃ (l : List Vr) (p : Option Addr) (c : Nat), cs = [.slice p l.length c] ∧ RowIn w.heap.size (Vr.At w) 4 l p := by
  have hk : Tryz.prog.cellsOf 80 = 4 := by kernel_rfl
  obtain ⟨m, p, len, cap, hn, rfl, hlen, hel⟩ := slice_opn hk (by decide) (by decide +kernel) Tryz.underlying45 h hw
  rcases hel with h0 | ⟨bb, off, rfl, hbl, hel⟩
  · exact ⟨[], p, cap, by rw [h0]; rfl, by simp, .inl rfl⟩
  · obtain ⟨l, rfl, hr⟩ := Row.of (A := Vr.At w) (k := 4) (b := bb) len off fun i hi => by
      obtain ⟨cs', y, hl, hc, hr, hy⟩ := hel i hi
      obtain ⟨n, rfl, hl, hf⟩ := struct_opn Tryz.underlying80 hr hy
      rw [hk] at hl
      obtain ⟨a, b, c, d, rfl⟩ := four hl
      obtain ⟨y0, h0, w0⟩ := hf 0 _ rfl
      obtain ⟨y1, h1, w1⟩ := hf 1 _ rfl
      obtain ⟨y2, h2, w2⟩ := hf 2 _ rfl
      obtain ⟨y3, h3, w3⟩ := hf 3 _ rfl
      replace h0 : DataW.trod enc Tryz.prog w 0 (fun _ => true) true n 9 (List.take (Tryz.prog.cellsOf 9) [a, b, c, d]) = some y0 := h0
      replace h1 : DataW.trod enc Tryz.prog w 0 (fun _ => true) true n 78 (List.take (Tryz.prog.cellsOf 78) [b, c, d]) = some y1 := h1
      replace h2 : DataW.trod enc Tryz.prog w 0 (fun _ => true) true n 3 (List.take (Tryz.prog.cellsOf 3) [c, d]) = some y2 := h2
      replace h3 : DataW.trod enc Tryz.prog w 0 (fun _ => true) true n 4 (List.take (Tryz.prog.cellsOf 4) [d]) = some y3 := h3
      rw [cOne _ (by simp)] at h0 h1 h2 h3
      obtain ⟨z0, e0⟩ := opn_str Tryz.underlying9 h0
      obtain ⟨z1, e1, _, _⟩ := opn_int Tryz.underlying78 h1
      obtain ⟨z2, e2, _, _⟩ := opn_int Tryz.underlying3 h2
      obtain ⟨z3, e3⟩ := opn_bool Tryz.underlying4 h3
      simp at e0 e1 e2 e3
      subst e0; subst e1; subst e2; subst e3
      exact ⟨⟨z0, z1, z2, z3⟩, hc 0 (by decide), hc 1 (by decide), hc 2 (by decide), hc 3 (by decide)⟩
    exact ⟨l, _, cap, rfl, hlen, .inr ⟨bb, off, rfl, hbl, hr⟩⟩
theorem open_regs {fuel : Nat} {cs : List Value} {x : DataW H × List MemPlace} (h : DataW.trod enc Tryz.prog w 0 (fun _ => true) true fuel 36 cs = some x) (hw : Wide 36 x.1) :
    ∃ (l : List Rgn) (p : Option Addr) (c : Nat), cs = [.slice p l.length c] ∧ RowIn w.heap.size (Rgn.At w) 4 l p := by
  have hk : Tryz.prog.cellsOf 77 = 4 := by kernel_rfl
  obtain ⟨m, p, len, cap, hn, rfl, hlen, hel⟩ := slice_opn hk (by decide) (by decide +kernel) Tryz.underlying36 h hw
  rcases hel with h0 | ⟨bb, off, rfl, hbl, hel⟩
  · exact ⟨[], p, cap, by rw [h0]; rfl, by simp, .inl rfl⟩
  · obtain ⟨l, rfl, hr⟩ := Row.of (A := Rgn.At w) (k := 4) (b := bb) len off fun i hi => by
      obtain ⟨cs', y, hl, hc, hr, hy⟩ := hel i hi
      obtain ⟨n, rfl, hl, hf⟩ := struct_opn Tryz.underlying77 hr hy
      rw [hk] at hl
      obtain ⟨a, b, c, d, rfl⟩ := four hl
      obtain ⟨y0, h0, w0⟩ := hf 0 _ rfl
      obtain ⟨y1, h1, w1⟩ := hf 1 _ rfl
      obtain ⟨y2, h2, w2⟩ := hf 2 _ rfl
      obtain ⟨y3, h3, w3⟩ := hf 3 _ rfl
      replace h0 : DataW.trod enc Tryz.prog w 0 (fun _ => true) true n 9 (List.take (Tryz.prog.cellsOf 9) [a, b, c, d]) = some y0 := h0
      replace h1 : DataW.trod enc Tryz.prog w 0 (fun _ => true) true n 3 (List.take (Tryz.prog.cellsOf 3) [b, c, d]) = some y1 := h1
      replace h2 : DataW.trod enc Tryz.prog w 0 (fun _ => true) true n 3 (List.take (Tryz.prog.cellsOf 3) [c, d]) = some y2 := h2
      replace h3 : DataW.trod enc Tryz.prog w 0 (fun _ => true) true n 4 (List.take (Tryz.prog.cellsOf 4) [d]) = some y3 := h3
      rw [cOne _ (by simp)] at h0 h1 h2 h3
      obtain ⟨z0, e0⟩ := opn_str Tryz.underlying9 h0
      obtain ⟨z1, e1, _, _⟩ := opn_int Tryz.underlying3 h1
      obtain ⟨z2, e2, _, _⟩ := opn_int Tryz.underlying3 h2
      obtain ⟨z3, e3⟩ := opn_bool Tryz.underlying4 h3
      simp at e0 e1 e2 e3
      subst e0; subst e1; subst e2; subst e3
      exact ⟨⟨z0, z1, z2, z3⟩, hc 0 (by decide), hc 1 (by decide), hc 2 (by decide), hc 3 (by decide)⟩
    exact ⟨l, _, cap, rfl, hlen, .inr ⟨bb, off, rfl, hbl, hr⟩⟩
theorem Fnc.At.mk' {B b o : Nat} {x : Fnc} {s : FncP} (h : ∀ j v, (x.cells s)[j]? = some v → w.cell? ⟨b, o + j, none⟩ = some v) (hok : x.Ok w B s) : x.At w B b o :=
  ⟨h 0 _ rfl, ⟨_, _, h 1 _ rfl, hok.1⟩, ⟨_, _, h 2 _ rfl, hok.2.1⟩, ⟨_, _, h 3 _ rfl, hok.2.2.1⟩, ⟨_, _, h 4 _ rfl, hok.2.2.2⟩⟩
theorem open_fns {fuel : Nat} {cs : List Value} {x : DataW H × List MemPlace} (h : DataW.trod enc Tryz.prog w 0 (fun _ => true) true fuel 37 cs = some x) (hw : Wide 37 x.1) :
    ∃ (l : List Fnc) (p : Option Addr) (c : Nat), cs = [.slice p l.length c] ∧ RowIn w.heap.size (Fnc.At w w.heap.size) 5 l p := by
  have hk : Tryz.prog.cellsOf 49 = 5 := by kernel_rfl
  obtain ⟨m, p, len, cap, hn, rfl, hlen, hel⟩ := slice_opn hk (by decide) (by decide +kernel) Tryz.underlying37 h hw
  rcases hel with h0 | ⟨bb, off, rfl, hbl, hel⟩
  · exact ⟨[], p, cap, by rw [h0]; rfl, by simp, .inl rfl⟩
  · obtain ⟨l, rfl, hr⟩ := Row.of (A := Fnc.At w w.heap.size) (k := 5) (b := bb) len off fun i hi => by
      obtain ⟨cs', y, hl, hc, hr, hy⟩ := hel i hi
      obtain ⟨n, rfl, hl, hf⟩ := struct_opn Tryz.underlying49 hr hy
      rw [hk] at hl
      obtain ⟨a, b, c, d, e, rfl⟩ := five hl
      obtain ⟨y0, h0, w0⟩ := hf 0 _ rfl
      obtain ⟨y1, h1, w1⟩ := hf 1 _ rfl
      obtain ⟨y2, h2, w2⟩ := hf 2 _ rfl
      obtain ⟨y3, h3, w3⟩ := hf 3 _ rfl
      obtain ⟨y4, h4, w4⟩ := hf 4 _ rfl
      replace h0 : DataW.trod enc Tryz.prog w 0 (fun _ => true) true n 9 (List.take (Tryz.prog.cellsOf 9) [a, b, c, d, e]) = some y0 := h0
      replace h1 : DataW.trod enc Tryz.prog w 0 (fun _ => true) true n 45 (List.take (Tryz.prog.cellsOf 45) [b, c, d, e]) = some y1 := h1
      replace h2 : DataW.trod enc Tryz.prog w 0 (fun _ => true) true n 45 (List.take (Tryz.prog.cellsOf 45) [c, d, e]) = some y2 := h2
      replace h3 : DataW.trod enc Tryz.prog w 0 (fun _ => true) true n 46 (List.take (Tryz.prog.cellsOf 46) [d, e]) = some y3 := h3
      replace h4 : DataW.trod enc Tryz.prog w 0 (fun _ => true) true n 47 (List.take (Tryz.prog.cellsOf 47) [e]) = some y4 := h4
      rw [cOne _ (by simp)] at h0 h1 h2 h3 h4
      obtain ⟨z0, e0⟩ := opn_str Tryz.underlying9 h0
      obtain ⟨l1, p1, c1, e1, s1⟩ := open_vars h1 w1
      obtain ⟨l2, p2, c2, e2, s2⟩ := open_vars h2 w2
      obtain ⟨l3, p3, c3, e3, s3⟩ := open_strs h3 w3
      obtain ⟨l4, p4, c4, e4, s4⟩ := open_sts h4 w4
      simp at e0 e1 e2 e3 e4
      subst e0; subst e1; subst e2; subst e3; subst e4
      exact ⟨⟨z0, l1, l2, l3, l4⟩, Fnc.At.mk' (s := ⟨p1, p2, p3, p4, c1, c2, c3, c4⟩) (cells_at (A := Fnc.cells ⟨z0, l1, l2, l3, l4⟩ ⟨p1, p2, p3, p4, c1, c2, c3, c4⟩) rfl hc) ⟨s1, s2, s3, s4⟩⟩
    exact ⟨l, _, cap, rfl, hlen, .inr ⟨bb, off, rfl, hbl, hr⟩⟩
theorem open_prg {fuel : Nat} {cs : List Value} {x : DataW H × List MemPlace} (h : DataW.trod enc Tryz.prog w 0 (fun _ => true) true fuel 39 cs = some x) (hw : Wide 39 x.1) :
    ∃ (l : Prg) (p q : Option Addr) (c d : Nat), cs = [.slice p l.regs.length c, .slice q l.fns.length d] ∧ l.Ok w w.heap.size p q := by
  obtain ⟨n, rfl, hl, hf⟩ := struct_opn Tryz.underlying39 h hw
  rw [show Tryz.prog.cellsOf 39 = 2 by kernel_rfl] at hl
  obtain ⟨a, b, rfl⟩ := twoL hl
  obtain ⟨y0, h0, w0⟩ := hf 0 _ rfl
  obtain ⟨y1, h1, w1⟩ := hf 1 _ rfl
  replace h0 : DataW.trod enc Tryz.prog w 0 (fun _ => true) true n 36 (List.take (Tryz.prog.cellsOf 36) [a, b]) = some y0 := h0
  replace h1 : DataW.trod enc Tryz.prog w 0 (fun _ => true) true n 37 (List.take (Tryz.prog.cellsOf 37) [b]) = some y1 := h1
  rw [cOne _ (by simp)] at h0 h1
  obtain ⟨l0, p0, c0, e0, s0⟩ := open_regs h0 w0
  obtain ⟨l1, p1, c1, e1, s1⟩ := open_fns h1 w1
  simp at e0 e1
  subst e0; subst e1
  exact ⟨⟨l0, l1⟩, p0, p1, c0, c1, rfl, s0, s1⟩
end
end Go.Proofs.YtlhbledakddbbaaGreatDoor
