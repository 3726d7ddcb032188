/- Programs that come in: their numbers lie in the range of their kind. -/
import Derived.Test.YtkjhofnkgcjcoaaDoorP19
import Derived.Test.YtkjhofnkgcjcoaaDoorP18
import Derived.Laws.AppendOwnNone
import Derived.WalkSpells
import Derived.Test.YtkjhofnkgcjcoaaDoorP08
namespace Go.Proofs.YtkjhofnkgcjcoaaDoor
open Go.ChangeShapes Go.WideShapes Go.ChangeAt Go.RowKit

def Rgn.fit (x : Rgn) : Prop := (-9223372036854775808 ≤ x.addr ∧ x.addr ≤ 9223372036854775807) ∧ -9223372036854775808 ≤ x.size ∧ x.size ≤ 9223372036854775807
def Vr.fit (x : Vr) : Prop := -9223372036854775808 ≤ x.size ∧ x.size ≤ 9223372036854775807
def Fnc.fit (f : Fnc) : Prop := (∀ v ∈ f.params, v.fit) ∧ ∀ v ∈ f.vars, v.fit
def Prg.fit (p : Prg) : Prop := (∀ r ∈ p.regs, r.fit) ∧ ∀ f ∈ p.fns, f.fit
theorem row_fit {α : Type} {A : α → Nat → Nat → Prop} {F : α → Prop} {k b : Nat} : ∀ (l : List α) (o : Nat), Row (fun x b o => A x b o ∧ F x) k l b o → ∀ x ∈ l, F x
  | [], _, _, _, h => by cases h
  | y :: r, o, h, x, hx => by
    rcases List.mem_cons.1 hx with rfl | hx
    · exact h.1.2
    · exact row_fit r _ h.2 x hx
theorem rowin_at {α : Type} {A : α → Nat → Nat → Prop} {F : α → Prop} {N k : Nat} {l : List α} {p : Option Addr} (h : RowIn N (fun x b o => A x b o ∧ F x) k l p) : RowIn N A k l p := h.imp (Nat.le_refl _) fun _ _ _ _ h => h.1
theorem rowin_fit {α : Type} {A : α → Nat → Nat → Prop} {F : α → Prop} {N k : Nat} {l : List α} {p : Option Addr} (h : RowIn N (fun x b o => A x b o ∧ F x) k l p) : ∀ x ∈ l, F x := by
  rcases h.2 with h0 | ⟨b, o, _, _, hr⟩
  · have : l = [] := List.length_eq_zero_iff.1 h0
    subst this
    intro x hx; cases hx
  · exact row_fit l o hr

section
variable {H : Type} {enc : TypeId × Value → H} {w : World}
theorem open_varsF {fuel : Nat} {cs : List Value} {x : DataW H × List MemPlace} (h : DataW.trod enc Tryd.prog w 0 (fun _ => true) true fuel 37 cs = some x) (hw : Wide 37 x.1) :
    ∃ (l : List Vr) (p : Option Addr) (c : Nat), cs = [.slice p l.length c] ∧ RowIn w.heap.size (fun x b o => Vr.At w x b o ∧ Vr.fit x) 4 l p := by
  have hk : Tryd.prog.cellsOf 48 = 4 := by kernel_rfl
  obtain ⟨m, p, len, cap, hn, rfl, hlen, hel⟩ := slice_opn hk (by decide) (by decide +kernel) Tryd.underlying37 h hw
  rcases hel with h0 | ⟨bb, off, rfl, hbl, hel⟩
  · exact ⟨[], p, cap, by rw [h0]; rfl, by simp, .inl rfl⟩
  · obtain ⟨l, rfl, hr⟩ := Row.of (A := fun x b o => Vr.At w x b o ∧ Vr.fit x) (k := 4) (b := bb) len off fun i hi => by
      obtain ⟨cs', y, hl, hc, hr, hy⟩ := hel i hi
      obtain ⟨n, rfl, hl, hf⟩ := struct_opn Tryd.underlying48 hr hy
      rw [hk] at hl
      obtain ⟨a, b, c, d, rfl⟩ := four hl
      obtain ⟨y0, h0, w0⟩ := hf 0 _ rfl
      obtain ⟨y1, h1, w1⟩ := hf 1 _ rfl
      obtain ⟨y2, h2, w2⟩ := hf 2 _ rfl
      obtain ⟨y3, h3, w3⟩ := hf 3 _ rfl
      replace h0 : DataW.trod enc Tryd.prog w 0 (fun _ => true) true n 9 (List.take (Tryd.prog.cellsOf 9) [a, b, c, d]) = some y0 := h0
      replace h1 : DataW.trod enc Tryd.prog w 0 (fun _ => true) true n 46 (List.take (Tryd.prog.cellsOf 46) [b, c, d]) = some y1 := h1
      replace h2 : DataW.trod enc Tryd.prog w 0 (fun _ => true) true n 3 (List.take (Tryd.prog.cellsOf 3) [c, d]) = some y2 := h2
      replace h3 : DataW.trod enc Tryd.prog w 0 (fun _ => true) true n 4 (List.take (Tryd.prog.cellsOf 4) [d]) = some y3 := h3
      rw [cOne _ (by simp)] at h0 h1 h2 h3
      obtain ⟨z0, e0⟩ := opn_str Tryd.underlying9 h0
      obtain ⟨z1, e1, _, _⟩ := opn_int Tryd.underlying46 h1
      obtain ⟨z2, e2, l2, u2⟩ := opn_int Tryd.underlying3 h2
      obtain ⟨z3, e3⟩ := opn_bool Tryd.underlying4 h3
      simp at e0 e1 e2 e3
      subst e0; subst e1; subst e2; subst e3
      exact ⟨⟨z0, z1, z2, z3⟩, ⟨hc 0 (by decide), hc 1 (by decide), hc 2 (by decide), hc 3 (by decide)⟩, l2, u2⟩
    exact ⟨l, _, cap, rfl, hlen, .inr ⟨bb, off, rfl, hbl, hr⟩⟩
theorem open_regsF {fuel : Nat} {cs : List Value} {x : DataW H × List MemPlace} (h : DataW.trod enc Tryd.prog w 0 (fun _ => true) true fuel 41 cs = some x) (hw : Wide 41 x.1) :
    ∃ (l : List Rgn) (p : Option Addr) (c : Nat), cs = [.slice p l.length c] ∧ RowIn w.heap.size (fun x b o => Rgn.At w x b o ∧ Rgn.fit x) 4 l p := by
  have hk : Tryd.prog.cellsOf 81 = 4 := by kernel_rfl
  obtain ⟨m, p, len, cap, hn, rfl, hlen, hel⟩ := slice_opn hk (by decide) (by decide +kernel) Tryd.underlying41 h hw
  rcases hel with h0 | ⟨bb, off, rfl, hbl, hel⟩
  · exact ⟨[], p, cap, by rw [h0]; rfl, by simp, .inl rfl⟩
  · obtain ⟨l, rfl, hr⟩ := Row.of (A := fun x b o => Rgn.At w x b o ∧ Rgn.fit x) (k := 4) (b := bb) len off fun i hi => by
      obtain ⟨cs', y, hl, hc, hr, hy⟩ := hel i hi
      obtain ⟨n, rfl, hl, hf⟩ := struct_opn Tryd.underlying81 hr hy
      rw [hk] at hl
      obtain ⟨a, b, c, d, rfl⟩ := four hl
      obtain ⟨y0, h0, w0⟩ := hf 0 _ rfl
      obtain ⟨y1, h1, w1⟩ := hf 1 _ rfl
      obtain ⟨y2, h2, w2⟩ := hf 2 _ rfl
      obtain ⟨y3, h3, w3⟩ := hf 3 _ rfl
      replace h0 : DataW.trod enc Tryd.prog w 0 (fun _ => true) true n 9 (List.take (Tryd.prog.cellsOf 9) [a, b, c, d]) = some y0 := h0
      replace h1 : DataW.trod enc Tryd.prog w 0 (fun _ => true) true n 3 (List.take (Tryd.prog.cellsOf 3) [b, c, d]) = some y1 := h1
      replace h2 : DataW.trod enc Tryd.prog w 0 (fun _ => true) true n 3 (List.take (Tryd.prog.cellsOf 3) [c, d]) = some y2 := h2
      replace h3 : DataW.trod enc Tryd.prog w 0 (fun _ => true) true n 4 (List.take (Tryd.prog.cellsOf 4) [d]) = some y3 := h3
      rw [cOne _ (by simp)] at h0 h1 h2 h3
      obtain ⟨z0, e0⟩ := opn_str Tryd.underlying9 h0
      obtain ⟨z1, e1, l1, u1⟩ := opn_int Tryd.underlying3 h1
      obtain ⟨z2, e2, l2, u2⟩ := opn_int Tryd.underlying3 h2
      obtain ⟨z3, e3⟩ := opn_bool Tryd.underlying4 h3
      simp at e0 e1 e2 e3
      subst e0; subst e1; subst e2; subst e3
      exact ⟨⟨z0, z1, z2, z3⟩, ⟨hc 0 (by decide), hc 1 (by decide), hc 2 (by decide), hc 3 (by decide)⟩, ⟨l1, u1⟩, l2, u2⟩
    exact ⟨l, _, cap, rfl, hlen, .inr ⟨bb, off, rfl, hbl, hr⟩⟩
theorem open_fnsF {fuel : Nat} {cs : List Value} {x : DataW H × List MemPlace} (h : DataW.trod enc Tryd.prog w 0 (fun _ => true) true fuel 40 cs = some x) (hw : Wide 40 x.1) :
    ∃ (l : List Fnc) (p : Option Addr) (c : Nat), cs = [.slice p l.length c] ∧ RowIn w.heap.size (fun x b o => Fnc.At w w.heap.size x b o ∧ Fnc.fit x) 5 l p := by
  have hk : Tryd.prog.cellsOf 39 = 5 := by kernel_rfl
  obtain ⟨m, p, len, cap, hn, rfl, hlen, hel⟩ := slice_opn hk (by decide) (by decide +kernel) Tryd.underlying40 h hw
  rcases hel with h0 | ⟨bb, off, rfl, hbl, hel⟩
  · exact ⟨[], p, cap, by rw [h0]; rfl, by simp, .inl rfl⟩
  · obtain ⟨l, rfl, hr⟩ := Row.of (A := fun x b o => Fnc.At w w.heap.size x b o ∧ Fnc.fit x) (k := 5) (b := bb) len off fun i hi => by
      obtain ⟨cs', y, hl, hc, hr, hy⟩ := hel i hi
      obtain ⟨n, rfl, hl, hf⟩ := struct_opn Tryd.underlying39 hr hy
      rw [hk] at hl
      obtain ⟨a, b, c, d, e, rfl⟩ := five hl
      obtain ⟨y0, h0, w0⟩ := hf 0 _ rfl
      obtain ⟨y1, h1, w1⟩ := hf 1 _ rfl
      obtain ⟨y2, h2, w2⟩ := hf 2 _ rfl
      obtain ⟨y3, h3, w3⟩ := hf 3 _ rfl
      obtain ⟨y4, h4, w4⟩ := hf 4 _ rfl
      replace h0 : DataW.trod enc Tryd.prog w 0 (fun _ => true) true n 9 (List.take (Tryd.prog.cellsOf 9) [a, b, c, d, e]) = some y0 := h0
      replace h1 : DataW.trod enc Tryd.prog w 0 (fun _ => true) true n 37 (List.take (Tryd.prog.cellsOf 37) [b, c, d, e]) = some y1 := h1
      replace h2 : DataW.trod enc Tryd.prog w 0 (fun _ => true) true n 37 (List.take (Tryd.prog.cellsOf 37) [c, d, e]) = some y2 := h2
      replace h3 : DataW.trod enc Tryd.prog w 0 (fun _ => true) true n 32 (List.take (Tryd.prog.cellsOf 32) [d, e]) = some y3 := h3
      replace h4 : DataW.trod enc Tryd.prog w 0 (fun _ => true) true n 33 (List.take (Tryd.prog.cellsOf 33) [e]) = some y4 := h4
      rw [cOne _ (by simp)] at h0 h1 h2 h3 h4
      obtain ⟨z0, e0⟩ := opn_str Tryd.underlying9 h0
      obtain ⟨l1, p1, c1, e1, s1⟩ := open_varsF h1 w1
      obtain ⟨l2, p2, c2, e2, s2⟩ := open_varsF h2 w2
      obtain ⟨l3, p3, c3, e3, s3⟩ := open_strs h3 w3
      obtain ⟨l4, p4, c4, e4, s4⟩ := open_sts h4 w4
      simp at e0 e1 e2 e3 e4
      subst e0; subst e1; subst e2; subst e3; subst e4
      exact ⟨⟨z0, l1, l2, l3, l4⟩, Fnc.At.mk' (s := ⟨p1, p2, p3, p4, c1, c2, c3, c4⟩) (cells_at (A := Fnc.cells ⟨z0, l1, l2, l3, l4⟩ ⟨p1, p2, p3, p4, c1, c2, c3, c4⟩) rfl hc) ⟨rowin_at s1, rowin_at s2, s3, s4⟩, rowin_fit s1, rowin_fit s2⟩
    exact ⟨l, _, cap, rfl, hlen, .inr ⟨bb, off, rfl, hbl, hr⟩⟩
theorem open_prgF {fuel : Nat} {cs : List Value} {x : DataW H × List MemPlace} (h : DataW.trod enc Tryd.prog w 0 (fun _ => true) true fuel 43 cs = some x) (hw : Wide 43 x.1) :
    ∃ (l : Prg) (p q : Option Addr) (c d : Nat), cs = [.slice p l.regs.length c, .slice q l.fns.length d] ∧ l.Ok w w.heap.size p q ∧ l.fit := by
  obtain ⟨n, rfl, hl, hf⟩ := struct_opn Tryd.underlying43 h hw
  rw [show Tryd.prog.cellsOf 43 = 2 by kernel_rfl] at hl
  obtain ⟨a, b, rfl⟩ := twoL hl
  obtain ⟨y0, h0, w0⟩ := hf 0 _ rfl
  obtain ⟨y1, h1, w1⟩ := hf 1 _ rfl
  replace h0 : DataW.trod enc Tryd.prog w 0 (fun _ => true) true n 41 (List.take (Tryd.prog.cellsOf 41) [a, b]) = some y0 := h0
  replace h1 : DataW.trod enc Tryd.prog w 0 (fun _ => true) true n 40 (List.take (Tryd.prog.cellsOf 40) [b]) = some y1 := h1
  rw [cOne _ (by simp)] at h0 h1
  obtain ⟨l0, p0, c0, e0, s0⟩ := open_regsF h0 w0
  obtain ⟨l1, p1, c1, e1, s1⟩ := open_fnsF h1 w1
  simp at e0 e1
  subst e0; subst e1
  exact ⟨⟨l0, l1⟩, p0, p1, c0, c1, rfl, ⟨rowin_at s0, rowin_at s1⟩, rowin_fit s0, rowin_fit s1⟩
end
end Go.Proofs.YtkjhofnkgcjcoaaDoor
/- How great statements and programs are that are short; where a list stands within another. -/
namespace Go.Proofs.YtkjhofnkgcjcoaaDoor
open Go.RowKit

theorem Exs.nil_of_len {a : Exs} (h : a.len = 0) : a = .nil := by cases a with | nil => rfl | cons => simp [Exs.len] at h
theorem Sts.nil_of_len {a : Sts} (h : a.len = 0) : a = .nil := by cases a with | nil => rfl | cons => simp [Sts.len] at h
mutual
theorem St.At.fine {w : World} {N : Nat} : ∀ (x : St) (b o : Nat), x.At w N b o → x.fine
  | .mk kd nm ns e a g lo hi bd el, b, o, h => by
    obtain ⟨⟨_, _, _, _, h4, h5⟩, _, he, ha, ⟨p2, c2, _, s2⟩, ⟨p3, c3, _, s3⟩, ⟨p4, c4, _, s4⟩⟩ := h
    refine ⟨⟨he.fine e _ _, ha.fine a _ _, ?_, h4, h5⟩, ?_, ?_⟩
    · rcases s2.2 with h0 | ⟨b', o', _, _, hr⟩
      · rw [Exs.nil_of_len h0]; trivial
      · exact hr.fine g _ _
    · rcases s3.2 with h0 | ⟨b', o', _, _, hr⟩
      · rw [Sts.nil_of_len h0]; trivial
      · exact Sts.At.fine bd b' o' hr
    · rcases s4.2 with h0 | ⟨b', o', _, _, hr⟩
      · rw [Sts.nil_of_len h0]; trivial
      · exact Sts.At.fine el b' o' hr
theorem Sts.At.fine {w : World} {N : Nat} : ∀ (l : Sts) (b o : Nat), l.At w N b o → l.fine
  | .nil, _, _, _ => trivial
  | .cons x r, b, o, h => ⟨St.At.fine x b o h.1, Sts.At.fine r b (o + 16) h.2⟩
end
theorem Sts.In.fine {w : World} {N : Nat} {l : Sts} {p : Option Addr} (h : l.In w N p) : l.fine := by
  rcases h.2 with h0 | ⟨b, o, _, _, hr⟩
  · rw [Sts.nil_of_len h0]; trivial
  · exact Sts.At.fine l b o hr
mutual
theorem St.wt_total : ∀ x : St, x.wt ≤ 10 * x.total
  | .mk kd nm ns e a g lo hi bd el => by
    have h1 := e.size_total
    have h2 := a.size_total
    have h3 := g.size_total
    have h4 := Sts.wt_total bd
    have h5 := Sts.wt_total el
    simp only [St.wt, St.total]; omega
theorem Sts.wt_total : ∀ l : Sts, l.wt ≤ 10 * l.total
  | .nil => by simp [Sts.wt]
  | .cons x r => by
    have h1 := St.wt_total x
    have h2 := Sts.wt_total r
    simp only [Sts.wt, Sts.total]; omega
end
/-- from d on L begins with S -/
def Seg {α : Type} (L : List α) (d : Nat) (S : List α) : Prop := ∃ T, L.drop d = S ++ T ∧ d ≤ L.length
theorem Seg.all {α : Type} (L : List α) : Seg L 0 L := ⟨[], by simp, Nat.zero_le _⟩
theorem Seg.len {α : Type} {L S : List α} {d : Nat} (h : Seg L d S) : d + S.length ≤ L.length := by
  obtain ⟨T, h, hd⟩ := h
  have := congrArg List.length h
  simp only [List.length_drop, List.length_append] at this
  omega
theorem Seg.get {α : Type} {L S : List α} {d : Nat} (h : Seg L d S) {j : Nat} {x : α} (hx : S[j]? = some x) : L[d + j]? = some x := by
  obtain ⟨T, h, _⟩ := h
  have hj : j < S.length := (List.getElem?_eq_some_iff.1 hx).1
  rw [← List.getElem?_drop, h, List.getElem?_append_left hj, hx]
theorem Seg.head {α : Type} {L S : List α} {d : Nat} {x : α} (h : Seg L d (x :: S)) : L[d]? = some x := by
  have := h.get (j := 0) (x := x) rfl
  simpa using this
theorem Seg.left {α : Type} {L A B : List α} {d : Nat} (h : Seg L d (A ++ B)) : Seg L d A := by
  obtain ⟨T, h, hd⟩ := h
  exact ⟨B ++ T, by rw [h, List.append_assoc], hd⟩
theorem Seg.right {α : Type} {L A B : List α} {d : Nat} (h : Seg L d (A ++ B)) : Seg L (d + A.length) B := by
  have hl := h.len
  obtain ⟨T, h, hd⟩ := h
  refine ⟨T, ?_, by rw [List.length_append] at hl; omega⟩
  rw [← List.drop_drop, h, List.append_assoc, List.drop_left]
theorem Seg.tail {α : Type} {L S : List α} {d : Nat} {x : α} (h : Seg L d (x :: S)) : Seg L (d + 1) S := Seg.right (A := [x]) h
theorem Seg.sub {α : Type} {L S M : List α} {d e : Nat} (h : Seg L d S) (k : Seg S e M) : Seg L (d + e) M := by
  have hl := h.len
  have kl := k.len
  obtain ⟨T, h, hd⟩ := h
  obtain ⟨U, k, ke⟩ := k
  refine ⟨U ++ T, ?_, by omega⟩
  rw [← List.drop_drop, h, List.drop_append_of_le_length ke, k, List.append_assoc]
end Go.Proofs.YtkjhofnkgcjcoaaDoor
/- Rows that are cloned: an append of what came in onto nothing. -/
namespace Go.Proofs.YtkjhofnkgcjcoaaDoor
open Go.RowKit

theorem add_of (b o j : Nat) : (⟨b, o, none⟩ : Addr).add j = ⟨b, o + j, none⟩ := by simp [Addr.add]
/-- a slice's cells, as append reads them -/
def Src (w : World) (size : Nat) (p : Option Addr) (m c : Nat) (news : List Value) : Prop :=
  news.length = m * size ∧ ((p = none ∧ m = 0 ∧ c = 0) ∨ ∃ ad, p = some ad ∧ ∀ j u, news[j]? = some u → w.cell? (ad.add j) = some u)

theorem wpList_append_src {P : Program} {w : World} {ops : Array Oper} {rest : List Oper} {o : Oper} {a : Act} {Q : Exit → Act → World → Prop} (hgd : o.guard = none) (s x : Operand) (t : TypeId)
    (ho : o.op = .call { callee := .builtin .append, args := #[s, x], argTypes := #[t, t] })
    (base : Nat) (e : TypeId) (i : TypeInfo) (z : Value) (size bytes : Nat) (ht : P.underlying t = some (.slice e)) (hi : P.info? e = some i) (hz : i.zero = some z)
    (hsize : i.size = size) (hby : i.bytes = bytes) (hzs : z.cells.size = size) (hsz : 0 < size)
    (v : Value) (n : Nat) (xs : List Value) (hs : a.eval s = v) (hown : w.ownsRow base e size v n xs)
    (p : Option Addr) (m c : Nat) (news : List Value) (hx : a.eval x = .slice p m c) (hsrc : Src w size p m c news) (h1 : ∀ u ∈ news, u.oneCell' = true)
    (h63 : n + m ≤ maxLen) (hbytes : (n + m) * bytes ≤ 140737488355328) (hbase : base ≤ w.heap.size)
    (h : ∀ v' w', w'.ownsRow base e size v' (n + m) (xs ++ news) → w.grownBy w' v.ownBlock → wpList P ops Q rest (a.put o.dst v') w') : wpList P ops Q (o :: rest) a w := by
  obtain ⟨hl, ⟨rfl, rfl, rfl⟩ | ⟨ad, rfl, hc⟩⟩ := hsrc
  · have : news = [] := List.eq_nil_of_length_eq_zero (by simpa using hl)
    subst this
    exact wpList_append_own_none hgd s x t ho base e i size ht hi v n xs hs hown hx (h v w (by simpa using hown) (World.grownBy.refl w _))
  · exact wpList_append_own w hgd s x t ho base e i z size bytes ht hi hz hsize hby hzs hsz v n xs hs hown ad m c news hx hl hc h1 h63 hbytes hbase fun v' w' h2 h3 _ => h v' w' h2 h3

theorem own_cap {w : World} {base : Nat} {e : TypeId} {size n : Nat} {v : Value} {xs : List Value} (h : w.ownsRow base e size v n xs) : ∃ p c, v = .slice p n c ∧ n ≤ c ∧ c ≤ maxLen ∧ (p = none → n = 0 ∧ c = 0) ∧ (∀ ad, p = some ad → ∃ g, ad = ⟨g, 0, none⟩ ∧ base ≤ g ∧ g < w.heap.size ∧ (∀ o, w.frozen? ⟨g, o, none⟩ = false) ∧ ∀ j u, xs[j]? = some u → w.cell? ⟨g, j, none⟩ = some u) := by
  rcases h.2 with ⟨rfl, rfl⟩ | ⟨g, cap, cur, rfl, hb, hg, hnc, hcm, _⟩
  · exact ⟨none, 0, rfl, Nat.le_refl _, Nat.zero_le _, fun _ => ⟨rfl, rfl⟩, fun _ h => by cases h⟩
  · refine ⟨_, cap, rfl, hnc, hcm, (fun h => (by cases h)), fun ad had => ?_⟩
    cases had
    refine ⟨g, rfl, hb, (h.lt g rfl).2, fun o => by simp [World.frozen?, hg], fun j u hu => ?_⟩
    have := h.cells (g := g) rfl j u hu
    rw [add_of, Nat.zero_add] at this; exact this

/-- a row of the call's own at block g, that may be written to -/
def RowG (w : World) (g : Nat) (cs : List Value) : Prop := g < w.heap.size ∧ (∀ o, w.frozen? ⟨g, o, none⟩ = false) ∧ ∀ j u, cs[j]? = some u → w.cell? ⟨g, j, none⟩ = some u
theorem RowG.later {w w' : World} {g : Nat} {cs : List Value} (h : RowG w g cs) (hB : Below w.heap.size w w') : RowG w' g cs :=
  ⟨Nat.lt_of_lt_of_le h.1 hB.size, fun o => (hB.frozen (p := ⟨g, o, none⟩) h.1).trans (h.2.1 o), fun j u hu => (hB.cell (p := ⟨g, j, none⟩) h.1).trans (h.2.2 j u hu)⟩
theorem RowG.set {w : World} {g i : Nat} {cs : List Value} {v : Value} (h : RowG w g cs) (hi : i < cs.length) : RowG (w.setCell ⟨g, i, none⟩ v) g (cs.set i v) := by
  obtain ⟨u0, hu0⟩ : ∃ u, cs[i]? = some u := ⟨_, List.getElem?_eq_getElem hi⟩
  refine ⟨by simp [World.setCell]; exact h.1, fun o => by rw [World.frozen?_setCell]; exact h.2.1 o, fun j u hj => ?_⟩
  by_cases e : i = j
  · subst e
    rw [List.getElem?_set_self hi] at hj
    cases hj
    exact World.cell?_setCell_same _ _ _ (h.2.2 i u0 hu0)
  · rw [List.getElem?_set_ne e] at hj
    rw [World.cell?_setCell_other _ _ _ _ (fun h => e (by cases h; rfl))]
    exact h.2.2 j u hj
/-- what a clone is -/
def Cloned (B : Nat) (w : World) (n : Nat) (cs : List Value) (v : Value) : Prop :=
  ∃ q d, v = .slice q n d ∧ n ≤ d ∧ ((q = none ∧ n = 0) ∨ ∃ g, q = some ⟨g, 0, none⟩ ∧ B ≤ g ∧ RowG w g cs)
theorem cloned_of {w : World} {base : Nat} {e : TypeId} {k n : Nat} {v : Value} {cs : List Value} (h : w.ownsRow base e k v n cs) : Cloned base w n cs v := by
  obtain ⟨q, d, hv, h1, h2, h3, h4⟩ := own_cap h
  refine ⟨q, d, hv, h1, ?_⟩
  cases q with
  | none => exact .inl ⟨rfl, (h3 rfl).1⟩
  | some ad =>
    obtain ⟨g, rfl, hb, hlt, hf, hc⟩ := h4 ad rfl
    exact .inr ⟨g, rfl, hb, hlt, hf, hc⟩
theorem Src.of {w : World} {k n c b o : Nat} {cs : List Value} (hl : cs.length = n * k) (h : ∀ j u, cs[j]? = some u → w.cell? ⟨b, o + j, none⟩ = some u) : Src w k (some ⟨b, o, none⟩) n c cs :=
  ⟨hl, .inr ⟨_, rfl, fun j u hu => by rw [add_of]; exact h j u hu⟩⟩
theorem Src.nil {w : World} {k c : Nat} {ad : Addr} : Src w k (some ad) 0 c [] := ⟨by simp, .inr ⟨ad, rfl, fun j u hu => by simp at hu⟩⟩
theorem info_str1 : (Tryd.prog.info? 9).map (fun i => (i.zero, i.size, i.bytes)) = some (some (.string ByteArray.empty), 1, 16) := by kernel_rfl
set_option maxHeartbeats 400000 in
theorem clone_str1_nil (w : World) (c : Nat) :
    Calls Tryd.prog 78 #[.slice none 0 c] w fun e w' => e = .returned (.slice none 0 0) ∧ w = w' := by
  have q22 : ∀ (w : World) (a : Option Addr) (n c n' c' : Nat), (binOp .eql 32 (.slice a n c) (.slice none n' c')).run Tryd.prog w = .ok (.bool a.isNone) w := fun w a n c n' c' => Lib.run_eql_slice_nil w _ _ a n c n' c' Tryd.underlying32
  go_enter Tryd.func78, Tryd.ntmps78
  go_wp2_with fail
  go_ret
  exact ⟨rfl, rfl⟩
set_option maxRecDepth 100000 in
set_option maxHeartbeats 1600000 in
theorem clone_str1_some (ad : Addr) (n c : Nat) (cs : List Value) (w : World) (h : Src w 1 (some ad) n c cs) (h1 : ∀ u ∈ cs, u.oneCell' = true) (hn : n ≤ 1000000) :
    Calls Tryd.prog 78 #[.slice (some ad) n c] w fun e w' => (∃ v, e = .returned v ∧ Cloned w.heap.size w' n cs v) ∧ Below w.heap.size w w' := by
  obtain ⟨i0, hi, hz0, hz1, hz2⟩ := info_parts info_str1
  have q22 : ∀ (w : World) (a : Option Addr) (n c n' c' : Nat), (binOp .eql 32 (.slice a n c) (.slice none n' c')).run Tryd.prog w = .ok (.bool a.isNone) w := fun w a n c n' c' => Lib.run_eql_slice_nil w _ _ a n c n' c' Tryd.underlying32
  go_enter Tryd.func78, Tryd.ntmps78
  go_wp2_with (at_builtin; refine wpList_append_src rfl _ _ 32 rfl w.heap.size 9 i0 (.string ByteArray.empty) 1 16 Tryd.underlying32 hi hz0 hz1 hz2 rfl (by decide) _ _ _ rfl (World.ownsRow_made w #[] 0 (Nat.le_refl _) (Nat.zero_le _) rfl) _ _ _ cs rfl ?q1 h1 ?q3 ?q4 ?q5 ?_)
  case q1 => exact ⟨h.1, h.2.imp (fun h => by cases h.1) (fun ⟨a, ha, hc⟩ => ⟨a, ha, fun j u hu => ((Below.refl w.heap.size w).alloc (Nat.le_refl _) _).cell (World.block_lt_of_cell? _ _ (hc j u hu)) |>.trans (hc j u hu)⟩)⟩
  case q3 => unfold maxLen; omega
  case q4 => omega
  case q5 => simp
  intro v' w1 hown hgrow
  have HO := Lib.hid (cloned_of (by simpa using hown))
  have HB := Lib.hid (((Below.refl _ w).alloc (Nat.le_refl _) _).grown hgrow (by simp) (by intro k hk; simp [Value.ownBlock] at hk; omega))
  clear hown hgrow
  go_wp2_with fail
  go_ret
  exact ⟨⟨v', rfl, HO.out⟩, HB.out⟩
theorem info_ex4 : (Tryd.prog.info? 29).map (fun i => (i.zero, i.size, i.bytes)) = some (some (.agg #[.int .i64 0, .int .u64 0, .string ByteArray.empty, .slice none 0 0]), 4, 56) := by kernel_rfl
set_option maxHeartbeats 400000 in
theorem clone_ex4_nil (w : World) (c : Nat) :
    Calls Tryd.prog 87 #[.slice none 0 c] w fun e w' => e = .returned (.slice none 0 0) ∧ w = w' := by
  have q22 : ∀ (w : World) (a : Option Addr) (n c n' c' : Nat), (binOp .eql 27 (.slice a n c) (.slice none n' c')).run Tryd.prog w = .ok (.bool a.isNone) w := fun w a n c n' c' => Lib.run_eql_slice_nil w _ _ a n c n' c' Tryd.underlying27
  go_enter Tryd.func87, Tryd.ntmps87
  go_wp2_with fail
  go_ret
  exact ⟨rfl, rfl⟩
set_option maxRecDepth 100000 in
set_option maxHeartbeats 1600000 in
theorem clone_ex4_some (ad : Addr) (n c : Nat) (cs : List Value) (w : World) (h : Src w 4 (some ad) n c cs) (h1 : ∀ u ∈ cs, u.oneCell' = true) (hn : n ≤ 1000000) :
    Calls Tryd.prog 87 #[.slice (some ad) n c] w fun e w' => (∃ v, e = .returned v ∧ Cloned w.heap.size w' n cs v) ∧ Below w.heap.size w w' := by
  obtain ⟨i0, hi, hz0, hz1, hz2⟩ := info_parts info_ex4
  have q22 : ∀ (w : World) (a : Option Addr) (n c n' c' : Nat), (binOp .eql 27 (.slice a n c) (.slice none n' c')).run Tryd.prog w = .ok (.bool a.isNone) w := fun w a n c n' c' => Lib.run_eql_slice_nil w _ _ a n c n' c' Tryd.underlying27
  go_enter Tryd.func87, Tryd.ntmps87
  go_wp2_with (at_builtin; refine wpList_append_src rfl _ _ 27 rfl w.heap.size 29 i0 (.agg #[.int .i64 0, .int .u64 0, .string ByteArray.empty, .slice none 0 0]) 4 56 Tryd.underlying27 hi hz0 hz1 hz2 rfl (by decide) _ _ _ rfl (World.ownsRow_made w #[] 0 (Nat.le_refl _) (Nat.zero_le _) rfl) _ _ _ cs rfl ?q1 h1 ?q3 ?q4 ?q5 ?_)
  case q1 => exact ⟨h.1, h.2.imp (fun h => by cases h.1) (fun ⟨a, ha, hc⟩ => ⟨a, ha, fun j u hu => ((Below.refl w.heap.size w).alloc (Nat.le_refl _) _).cell (World.block_lt_of_cell? _ _ (hc j u hu)) |>.trans (hc j u hu)⟩)⟩
  case q3 => unfold maxLen; omega
  case q4 => omega
  case q5 => simp
  intro v' w1 hown hgrow
  have HO := Lib.hid (cloned_of (by simpa using hown))
  have HB := Lib.hid (((Below.refl _ w).alloc (Nat.le_refl _) _).grown hgrow (by simp) (by intro k hk; simp [Value.ownBlock] at hk; omega))
  clear hown hgrow
  go_wp2_with fail
  go_ret
  exact ⟨⟨v', rfl, HO.out⟩, HB.out⟩
theorem info_st16 : (Tryd.prog.info? 35).map (fun i => (i.zero, i.size, i.bytes)) = some (some (.agg #[.int .i64 0, .string ByteArray.empty, .slice none 0 0, .int .i64 0, .int .u64 0, .string ByteArray.empty, .slice none 0 0, .int .i64 0, .int .u64 0, .string ByteArray.empty, .slice none 0 0, .slice none 0 0, .int .u64 0, .int .u64 0, .slice none 0 0, .slice none 0 0]), 16, 248) := by kernel_rfl
set_option maxHeartbeats 400000 in
theorem clone_st16_nil (w : World) (c : Nat) :
    Calls Tryd.prog 77 #[.slice none 0 c] w fun e w' => e = .returned (.slice none 0 0) ∧ w = w' := by
  have q22 : ∀ (w : World) (a : Option Addr) (n c n' c' : Nat), (binOp .eql 33 (.slice a n c) (.slice none n' c')).run Tryd.prog w = .ok (.bool a.isNone) w := fun w a n c n' c' => Lib.run_eql_slice_nil w _ _ a n c n' c' Tryd.underlying33
  go_enter Tryd.func77, Tryd.ntmps77
  go_wp2_with fail
  go_ret
  exact ⟨rfl, rfl⟩
set_option maxRecDepth 100000 in
set_option maxHeartbeats 1600000 in
theorem clone_st16_some (ad : Addr) (n c : Nat) (cs : List Value) (w : World) (h : Src w 16 (some ad) n c cs) (h1 : ∀ u ∈ cs, u.oneCell' = true) (hn : n ≤ 1000000) :
    Calls Tryd.prog 77 #[.slice (some ad) n c] w fun e w' => (∃ v, e = .returned v ∧ Cloned w.heap.size w' n cs v) ∧ Below w.heap.size w w' := by
  obtain ⟨i0, hi, hz0, hz1, hz2⟩ := info_parts info_st16
  have q22 : ∀ (w : World) (a : Option Addr) (n c n' c' : Nat), (binOp .eql 33 (.slice a n c) (.slice none n' c')).run Tryd.prog w = .ok (.bool a.isNone) w := fun w a n c n' c' => Lib.run_eql_slice_nil w _ _ a n c n' c' Tryd.underlying33
  go_enter Tryd.func77, Tryd.ntmps77
  go_wp2_with (at_builtin; refine wpList_append_src rfl _ _ 33 rfl w.heap.size 35 i0 (.agg #[.int .i64 0, .string ByteArray.empty, .slice none 0 0, .int .i64 0, .int .u64 0, .string ByteArray.empty, .slice none 0 0, .int .i64 0, .int .u64 0, .string ByteArray.empty, .slice none 0 0, .slice none 0 0, .int .u64 0, .int .u64 0, .slice none 0 0, .slice none 0 0]) 16 248 Tryd.underlying33 hi hz0 hz1 hz2 rfl (by decide) _ _ _ rfl (World.ownsRow_made w #[] 0 (Nat.le_refl _) (Nat.zero_le _) rfl) _ _ _ cs rfl ?q1 h1 ?q3 ?q4 ?q5 ?_)
  case q1 => exact ⟨h.1, h.2.imp (fun h => by cases h.1) (fun ⟨a, ha, hc⟩ => ⟨a, ha, fun j u hu => ((Below.refl w.heap.size w).alloc (Nat.le_refl _) _).cell (World.block_lt_of_cell? _ _ (hc j u hu)) |>.trans (hc j u hu)⟩)⟩
  case q3 => unfold maxLen; omega
  case q4 => omega
  case q5 => simp
  intro v' w1 hown hgrow
  have HO := Lib.hid (cloned_of (by simpa using hown))
  have HB := Lib.hid (((Below.refl _ w).alloc (Nat.le_refl _) _).grown hgrow (by simp) (by intro k hk; simp [Value.ownBlock] at hk; omega))
  clear hown hgrow
  go_wp2_with fail
  go_ret
  exact ⟨⟨v', rfl, HO.out⟩, HB.out⟩
end Go.Proofs.YtkjhofnkgcjcoaaDoor
/- Expressions copied: the program's copyExprs. -/
namespace Go.Proofs.YtkjhofnkgcjcoaaDoor
open Go.RowKit

/-- rows of things, each with where its slices lie -/
def encs {α σ : Type} (enc : α → σ → List Value) (zs : List (α × σ)) : List Value := zs.flatMap fun z => enc z.1 z.2
theorem encs_nil {α σ : Type} (enc : α → σ → List Value) : encs enc [] = [] := rfl
theorem encs_cons {α σ : Type} (enc : α → σ → List Value) (z : α × σ) (r : List (α × σ)) : encs enc (z :: r) = enc z.1 z.2 ++ encs enc r := rfl
theorem encs_app {α σ : Type} (enc : α → σ → List Value) (a b : List (α × σ)) : encs enc (a ++ b) = encs enc a ++ encs enc b := by simp [encs]
theorem encs_len {α σ : Type} {enc : α → σ → List Value} {k : Nat} (hk : ∀ x s, (enc x s).length = k) : ∀ zs : List (α × σ), (encs enc zs).length = zs.length * k
  | [] => by simp [encs]
  | z :: r => by rw [encs_cons, List.length_append, hk, encs_len hk r, List.length_cons, Nat.add_mul]; omega
theorem encs_get {α σ : Type} {enc : α → σ → List Value} {k : Nat} (hk : ∀ x s, (enc x s).length = k) (d : List (α × σ)) (z : α × σ) (r : List (α × σ)) {i : Nat} {u : Value} (h : (enc z.1 z.2)[i]? = some u) : (encs enc (d ++ z :: r))[d.length * k + i]? = some u := by
  have hi : i < (enc z.1 z.2).length := (List.getElem?_eq_some_iff.1 h).1
  rw [encs_app, List.getElem?_append_right (by rw [encs_len hk]; omega), encs_len hk, Nat.add_sub_cancel_left, encs_cons, List.getElem?_append_left hi, h]
theorem encs_set {α σ : Type} {enc : α → σ → List Value} {k : Nat} (hk : ∀ x s, (enc x s).length = k) (d : List (α × σ)) (z z' : α × σ) (r : List (α × σ)) {i : Nat} {u : Value} (hi : i < k) (h : (enc z.1 z.2).set i u = enc z'.1 z'.2) : (encs enc (d ++ z :: r)).set (d.length * k + i) u = encs enc (d ++ z' :: r) := by
  rw [encs_app, encs_app, List.set_append_right _ _ (by rw [encs_len hk]; omega), encs_len hk, Nat.add_sub_cancel_left, encs_cons, encs_cons, List.set_append_left _ _ (by rw [hk]; exact hi), h]
theorem Row.openZ {α σ : Type} {A : α → Nat → Nat → Prop} {enc : α → σ → List Value} {k b : Nat} {w : World} {OK : α → σ → Prop} (hk : ∀ x s, (enc x s).length = k)
    (op : ∀ x o, A x b o → ∃ s, (∀ j v, (enc x s)[j]? = some v → w.cell? ⟨b, o + j, none⟩ = some v) ∧ OK x s) : ∀ (xs : List α) (o : Nat), Row A k xs b o →
    ∃ zs : List (α × σ), zs.map Prod.fst = xs ∧ (∀ j u, (encs enc zs)[j]? = some u → w.cell? ⟨b, o + j, none⟩ = some u) ∧ ∀ z ∈ zs, OK z.1 z.2
  | [], _, _ => ⟨[], rfl, fun _ _ h => by simp [encs] at h, fun _ h => by cases h⟩
  | x :: r, o, h => by
    obtain ⟨s, hs, ok⟩ := op x o h.1
    obtain ⟨zs, hm, hc, ho⟩ := Row.openZ hk op r (o + k) h.2
    refine ⟨(x, s) :: zs, by rw [List.map_cons, hm], fun j u hu => ?_, fun z hz => ?_⟩
    · rw [encs_cons] at hu
      by_cases hj : j < k
      · rw [List.getElem?_append_left (by rw [hk]; exact hj)] at hu
        exact hs j u hu
      · rw [List.getElem?_append_right (by rw [hk]; omega), hk] at hu
        have := hc (j - k) u hu
        rw [show o + k + (j - k) = o + j by omega] at this
        exact this
    · rcases List.mem_cons.1 hz with rfl | hz
      · exact ok
      · exact ho z hz
theorem Row.closeZ {α σ : Type} {A : α → Nat → Nat → Prop} {enc : α → σ → List Value} {k b : Nat} {w : World} (hk : ∀ x s, (enc x s).length = k)
    : ∀ (zs : List (α × σ)) (o : Nat), (∀ z ∈ zs, ∀ o, (∀ j v, (enc z.1 z.2)[j]? = some v → w.cell? ⟨b, o + j, none⟩ = some v) → A z.1 b o) → (∀ j u, (encs enc zs)[j]? = some u → w.cell? ⟨b, o + j, none⟩ = some u) → Row A k (zs.map Prod.fst) b o
  | [], _, _, _ => trivial
  | z :: r, o, hA, h => by
    refine ⟨hA z (by simp) o fun j v hv => h j v ?_, Row.closeZ hk r (o + k) (fun y hy => hA y (by simp [hy])) fun j u hu => ?_⟩
    · rw [encs_cons, List.getElem?_append_left (List.getElem?_eq_some_iff.1 hv).1]; exact hv
    · have := h (k + j) u (by rw [encs_cons, List.getElem?_append_right (by rw [hk]; omega), hk, Nat.add_sub_cancel_left]; exact hu)
      rw [show o + (k + j) = o + k + j by omega] at this
      exact this
/-- worlds that agree from A on, below B -/
def Agr (A B : Nat) (w W : World) : Prop := B ≤ W.heap.size ∧ ∀ k, A ≤ k → k < B → W.heap[k]? = w.heap[k]?
theorem Agr.mono {A B A' B' : Nat} {w W : World} (h : Agr A B w W) (hA : A ≤ A') (hB : B' ≤ B) : Agr A' B' w W := ⟨Nat.le_trans hB h.1, fun k h1 h2 => h.2 k (by omega) (by omega)⟩
theorem Agr.trans {A B : Nat} {w v W : World} (h : Agr A B w v) (k : Agr A B v W) : Agr A B w W := ⟨k.1, fun i h1 h2 => (k.2 i h1 h2).trans (h.2 i h1 h2)⟩
theorem Agr.of_below {A B : Nat} {w W : World} (h : Below B w W) (hB : B ≤ w.heap.size) : Agr A B w W := ⟨Nat.le_trans hB h.size, fun k _ h2 => h.block k h2⟩
theorem Agr.set {A B g : Nat} {w : World} (hg : g < A) (hB : B ≤ w.heap.size) (o : Nat) (v : Value) : Agr A B w (w.setCell ⟨g, o, none⟩ v) :=
  ⟨by simp [World.setCell]; exact hB, fun k h1 _ => Below.heap_setCell _ _ _ _ (by show k ≠ g; omega)⟩
theorem Agr.cell {A B : Nat} {w W : World} (h : Agr A B w W) {g o : Nat} (h1 : A ≤ g) (h2 : g < B) : W.cell? ⟨g, o, none⟩ = w.cell? ⟨g, o, none⟩ := World.cell?_of_block (h.2 g h1 h2)
/-- it stays wherever the blocks from A to B are as they were -/
def Fresh (A B : Nat) (w : World) (Pp : World → Nat → Prop) : Prop := ∀ W, Agr A B w W → Pp W B
theorem Fresh.grow {A B A' B' : Nat} {w w' : World} {Pp : World → Nat → Prop} (h : Fresh A B w Pp) (hA : A' ≤ A) (hB : B ≤ B') (hw : Agr A B w w') (hP : ∀ W, B' ≤ W.heap.size → Pp W B → Pp W B') : Fresh A' B' w' Pp :=
  fun W hW => hP W hW.1 (h W (hw.trans (hW.mono hA hB)))

def exC (x : Ex) (s : Option Addr × Nat) : List Value := [.int .i64 x.op, .int .u64 (x.word : Int), .string (str x.name), .slice s.1 x.args.len s.2]
theorem exC_len (x : Ex) (s : Option Addr × Nat) : (exC x s).length = 4 := rfl
theorem one_exC (zs : List (Ex × (Option Addr × Nat))) : ∀ u ∈ encs exC zs, u.oneCell' = true := by
  intro u hu
  obtain ⟨z, _, hz⟩ := List.mem_flatMap.1 hu
  simp only [exC, List.mem_cons, List.not_mem_nil, or_false] at hz
  rcases hz with rfl | rfl | rfl | rfl <;> rfl
theorem Exs.ofRow {w : World} {N b : Nat} : ∀ (l : Exs) (o : Nat), Row (Ex.At w N) 4 l.toL b o → l.At w N b o
  | .nil, _, _ => trivial
  | .cons _x r, o, h => ⟨h.1, Exs.ofRow r (o + 4) h.2⟩
theorem Exs.In.up {w : World} {l : Exs} {p : Option Addr} {N M : Nat} (h : l.In w N p) (hM : N ≤ M) : l.In w M p := h.later (Below.refl N w) hM
/-- a clone of expressions -/
theorem cloneE_any (l : Exs) (p : Option Addr) (c N : Nat) (w : World) (hn : l.len ≤ 1000000) (h : l.In w N p) :
    Calls Tryd.prog 87 #[.slice p l.len c] w fun e w' => (∃ q d zs, e = .returned (.slice q l.len d) ∧ zs.map Prod.fst = l.toL ∧ (∀ z ∈ zs, z.1.Ok w N z.2.1) ∧ ((q = none ∧ l.len = 0) ∨ ∃ g, q = some ⟨g, 0, none⟩ ∧ w.heap.size ≤ g ∧ RowG w' g (encs exC zs))) ∧ Below w.heap.size w w' := by
  cases p with
  | none =>
    have h0 : l.len = 0 := by
      rcases h.2 with h0 | ⟨b, o, hq, _⟩
      · exact h0
      · cases hq
    rw [h0]
    refine (clone_ex4_nil w c).mono ?_
    rintro e w' ⟨rfl, rfl⟩
    refine ⟨⟨none, 0, [], rfl, ?_, (fun _ hz => by cases hz), .inl ⟨rfl, rfl⟩⟩, Below.refl _ _⟩
    have := Exs.toL_len l
    rw [h0] at this
    exact (List.length_eq_zero_iff.1 this.symm).symm
  | some ad =>
    obtain ⟨zs, hm, hok, hsrc⟩ : ∃ zs : List (Ex × (Option Addr × Nat)), zs.map Prod.fst = l.toL ∧ (∀ z ∈ zs, z.1.Ok w N z.2.1) ∧ Src w 4 (some ad) l.len c (encs exC zs) := by
      by_cases h0 : l.len = 0
      · have := Exs.toL_len l
        rw [h0] at this
        rw [h0, List.length_eq_zero_iff.1 this.symm]
        exact ⟨[], rfl, (fun _ hz => by cases hz), Src.nil⟩
      · rcases h.2 with h1 | ⟨b, o, hq, hb, ha⟩
        · exact absurd h1 h0
        · cases hq
          obtain ⟨zs, hm, hc, hok⟩ := Row.openZ (enc := exC) (OK := fun x s => x.Ok w N s.1) exC_len (fun x o hx => by
            obtain ⟨p, c, e0, e1, e2, e3, ok⟩ := hx.open'
            refine ⟨(p, c), fun j v hv => ?_, ok⟩
            rcases j with _ | _ | _ | _ | j
            all_goals first | (cases hv; assumption) | (simp [exC] at hv)) l.toL o (Exs.row l o ha)
          refine ⟨zs, hm, hok, Src.of ?_ hc⟩
          rw [encs_len exC_len, Exs.toL_len, ← hm, List.length_map]
    refine (clone_ex4_some ad l.len c _ w hsrc (one_exC zs) hn).mono ?_
    rintro e w' ⟨⟨v, rfl, q, d, rfl, hd, hq⟩, hB⟩
    exact ⟨⟨q, d, zs, rfl, hm, hok, hq⟩, hB⟩

def CpE (n : Nat) : Prop := ∀ l : Exs, l.size < n → l.size ≤ 1000000 → ∀ (p : Option Addr) (c N : Nat) (w : World), N ≤ w.heap.size → l.In w N p →
    Calls Tryd.prog 79 #[.slice p l.len c] w fun e w' => (∃ q d, e = .returned (.slice q l.len d) ∧ Fresh w.heap.size w'.heap.size w' (fun W B => l.In W B q)) ∧ Below w.heap.size w w'
theorem Exs.len_size : ∀ l : Exs, l.len ≤ l.size
  | .nil => Nat.zero_le _
  | .cons x r => by have := Exs.len_size r; simp only [Exs.len, Exs.size]; omega
set_option maxRecDepth 100000 in
set_option maxHeartbeats 3200000 in
theorem cpE_step (n : Nat) (ih : CpE n) : CpE (n + 1) := by
  intro l hsz h6 p c N w hN hin
  have hls := Exs.len_size l
  have HC := Lib.hid (cloneE_any l p c N w (by omega) hin)
  have IH := Lib.hid ih
  have hxs : ∀ x ∈ l.toL, x.args.size < n ∧ x.args.size ≤ 1000000 := fun x hx => by
    have := Exs.toL_size hx
    have h2 : x.args.size < x.size := by cases x; simp only [Ex.args, Ex.size]; omega
    omega
  have HXs := Lib.hid hxs
  have hl63 := hin.1
  have HLl := Lib.hid (Exs.toL_len l)
  clear hin ih hxs
  go_enter Tryd.func79, Tryd.ntmps79
  go_wp2_with fail
  refine HC.out.mono ?_
  rintro e w1 ⟨⟨q, d, zs, rfl, hm, hok, hq⟩, hB⟩
  have HM := Lib.hid hm
  have HOk := Lib.hid hok
  have HB1 := Lib.hid hB
  have hzl : zs.length = l.len := by rw [HLl.out, ← hm, List.length_map]
  clear hm hok hB HC
  rcases hq with ⟨rfl, h0⟩ | ⟨g, rfl, hg, hrow⟩
  · rw [h0]
    go_wp2_with fail
    go_loopw [9] (fun i wr => i = .int .i64 0 ∧ wr = w1) (fun _ _ => 0)
    case atStart => exact ⟨rfl, rfl⟩
    case round =>
      obtain ⟨rfl, rfl⟩ := hrel
      go_wp2_with fail
      go_ret
      exact ⟨⟨none, d, by rw [h0]; rfl, fun W hW => ⟨by omega, .inl h0⟩⟩, HB1.out⟩
  · have HRow := Lib.hid hrow
    have HG := Lib.hid hg
    clear hrow
    go_wp2_with fail
    go_loopw [9] (fun i wr => ∃ dn rs : List (Ex × (Option Addr × Nat)), i = .int .i64 dn.length ∧ dn.length + rs.length = l.len ∧ Hid ((dn ++ rs).map Prod.fst = l.toL) ∧ Hid (RowG wr g (encs exC (dn ++ rs))) ∧ Hid (∀ z ∈ dn, Fresh (g + 1) wr.heap.size wr (fun W B => z.1.Ok W B z.2.1)) ∧ Hid (∀ z ∈ rs, z.1.Ok w N z.2.1) ∧ Hid (Below w.heap.size w wr)) (fun i _ => l.len - (intOf i).toNat)
    case atStart => exact ⟨[], zs, rfl, by simp; exact hzl, HM, HRow, Lib.hid (fun _ h => by cases h), HOk, HB1⟩
    case round =>
      obtain ⟨dn, rs, rfl, hk, hM, hR, hF, hO, hB⟩ := hrel
      cases rs with
      | nil =>
        simp only [List.length_nil, Nat.add_zero] at hk
        have hge : ¬ dn.length < l.len := by omega
        go_wp2_with fail
        go_ret
        refine ⟨⟨some ⟨g, 0, none⟩, d, rfl, fun W hW => ?_⟩, hB.out⟩
        have hgz := hR.out.1
        have hM' := hM.out
        rw [List.append_nil] at hM'
        have hR' := hR.out
        rw [List.append_nil] at hR'
        refine ⟨hl63, .inr ⟨g, 0, rfl, hgz, Exs.ofRow l 0 ?_⟩⟩
        rw [← hM']
        refine Row.closeZ (w := W) exC_len dn 0 (fun z hz o hc => ?_) (fun j u hu => ?_)
        · have ok := hF.out z hz W (hW.mono (by omega) (Nat.le_refl _))
          exact Ex.At.mk' (p := z.2.1) (c := z.2.2) (by have := hc 0 _ rfl; simpa using this) (hc 1 _ rfl) (hc 2 _ rfl) (hc 3 _ rfl) ok
        · rw [Nat.zero_add, hW.cell HG.out hgz]
          exact hR'.2.2 j u hu
      | cons z rs =>
        simp only [List.length_cons] at hk
        have hlt : dn.length < l.len := by omega
        have hzx : z.1 ∈ l.toL := by rw [← hM.out]; simp
        obtain ⟨x, ps, cs⟩ := z
        have hgz := hR.out.1
        have c3 : wr.cell? ⟨g, dn.length * 4 + 3, none⟩ = some (.slice ps x.args.len cs) := hR.out.2.2 _ _ (encs_get exC_len dn (x, ps, cs) rs (i := 3) rfl)
        have okz := hO.out (x, ps, cs) (by simp)
        obtain ⟨hz1, hz2⟩ := HXs.out x hzx
        have HCx := Lib.hid (IH.out x.args hz1 hz2 ps cs N wr (Nat.le_trans hN hB.out.size) (okz.1.later (hB.out.mono hN) (Nat.le_refl _)))
        go_wp2_with fail
        refine HCx.out.mono ?_
        rintro e w2 ⟨⟨q', d', rfl, hf⟩, hB2⟩
        have hR2 := hR.out.later hB2
        have e3 : w2.cell? ⟨g, dn.length * 4 + 3, none⟩ = some (.slice ps x.args.len cs) := hR2.2.2 _ _ (encs_get exC_len dn (x, ps, cs) rs (i := 3) rfl)
        have f3 : w2.frozen? ⟨g, dn.length * 4 + 3, none⟩ = false := hR2.2.1 _
        have hzz := hB2.size
        have hg2 := HG.out
        have HN : Hid ((dn ++ [(x, q', d')] ++ rs).map Prod.fst = l.toL ∧ RowG (w2.setCell ⟨g, dn.length * 4 + 3, none⟩ (.slice q' x.args.len d')) g (encs exC (dn ++ [(x, q', d')] ++ rs)) ∧
            (∀ z ∈ dn ++ [(x, q', d')], Fresh (g + 1) (w2.setCell ⟨g, dn.length * 4 + 3, none⟩ (.slice q' x.args.len d')).heap.size (w2.setCell ⟨g, dn.length * 4 + 3, none⟩ (.slice q' x.args.len d')) (fun W B => z.1.Ok W B z.2.1)) ∧
            Below w.heap.size w (w2.setCell ⟨g, dn.length * 4 + 3, none⟩ (.slice q' x.args.len d'))) := Lib.hid (by
          have hsz : (w2.setCell ⟨g, dn.length * 4 + 3, none⟩ (.slice q' x.args.len d')).heap.size = w2.heap.size := by simp [World.setCell]
          have hag : Agr (g + 1) w2.heap.size w2 (w2.setCell ⟨g, dn.length * 4 + 3, none⟩ (.slice q' x.args.len d')) := Agr.set (by omega) (Nat.le_refl _) _ _
          refine ⟨by rw [← hM.out]; simp, ?_, fun z hz => ?_, (hB.out.trans (hB2.mono hB.out.size)).setCell (p := ⟨g, dn.length * 4 + 3, none⟩) hg2 _⟩
          · have := hR2.set (i := dn.length * 4 + 3) (v := .slice q' x.args.len d') (by rw [encs_len exC_len, List.length_append, List.length_cons]; omega)
            rw [encs_set exC_len dn (x, ps, cs) (x, q', d') rs (by omega) rfl] at this
            rw [List.append_assoc]; exact this
          · rw [hsz]
            rcases List.mem_append.1 hz with hz | hz
            · exact (hF.out z hz).grow (Nat.le_refl _) hzz ((Agr.of_below hB2 (Nat.le_refl _)).trans (hag.mono (Nat.le_refl _) hzz)) (fun W _ h => ⟨h.1.up hzz, h.2⟩)
            · rw [List.mem_singleton] at hz
              subst hz
              exact Fresh.grow (Pp := fun W B => x.Ok W B q') (fun W hW => ⟨hf W hW, okz.2⟩) (by omega) (Nat.le_refl _) (hag.mono (by omega) (Nat.le_refl _)) (fun W _ h => h))
        have HO2 : Hid (∀ z ∈ rs, z.1.Ok w N z.2.1) := Lib.hid (fun z hz => hO.out z (List.mem_cons_of_mem _ hz))
        have hlt2 : dn.length < l.len := hlt
        clear hf hB2 hR2 hR hF hO hM c3
        go_wp2_with fail
        go_roundw
        case rel => exact ⟨dn ++ [(x, q', d')], rs, by simp, by simp; omega, Lib.hid HN.out.1, Lib.hid HN.out.2.1, Lib.hid HN.out.2.2.1, HO2, Lib.hid HN.out.2.2.2⟩
        case measure => simp [intOf]; omega
theorem cpE_all : ∀ n, CpE n
  | 0 => fun _ h => by omega
  | n + 1 => cpE_step n (cpE_all n)
end Go.Proofs.YtkjhofnkgcjcoaaDoor
