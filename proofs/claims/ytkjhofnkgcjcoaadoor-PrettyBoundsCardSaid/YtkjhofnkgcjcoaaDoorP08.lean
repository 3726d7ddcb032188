/- Statements, functions and programs as they lie in memory. -/
import Derived.Test.YtkjhofnkgcjcoaaDoorP00
import Derived.Lib.Strings
import Derived.StillTailTactics
namespace Go.Proofs.YtkjhofnkgcjcoaaDoor
open Go.RowKit

/-- a row of things of k cells each -/
def Row {α : Type} (A : α → Nat → Nat → Prop) (k : Nat) : List α → Nat → Nat → Prop
  | [], _, _ => True
  | x :: r, b, o => A x b o ∧ Row A k r b (o + k)
theorem Row.imp {α : Type} {A B : α → Nat → Nat → Prop} {k b : Nat} (h : ∀ x o, A x b o → B x b o) : ∀ (l : List α) (o : Nat), Row A k l b o → Row B k l b o
  | [], _, _ => trivial
  | x :: r, o, H => ⟨h x o H.1, Row.imp h r (o + k) H.2⟩
theorem Row.drop {α : Type} {A : α → Nat → Nat → Prop} {k b : Nat} : ∀ (l r : List α) (o : Nat), Row A k (l ++ r) b o → Row A k r b (o + l.length * k)
  | [], _, o, h => by simpa using h
  | x :: l, r, o, h => by
    have := Row.drop l r (o + k) h.2
    rw [show o + (x :: l).length * k = o + k + l.length * k by simp only [List.length_cons, Nat.add_mul]; omega]
    exact this
theorem Row.get {α : Type} {A : α → Nat → Nat → Prop} {k b o i : Nat} {l : List α} {x : α} (h : Row A k l b o) (hi : l[i]? = some x) : A x b (o + i * k) := by
  induction l generalizing o i with
  | nil => simp at hi
  | cons y r ih =>
    cases i with
    | zero => simp at hi; subst hi; simpa using h.1
    | succ i =>
      have := ih (o := o + k) (i := i) h.2 (by simpa using hi)
      rw [show o + (i + 1) * k = o + k + i * k by rw [Nat.add_mul]; omega]; exact this
theorem Row.of {α : Type} {A : α → Nat → Nat → Prop} {k b : Nat} : ∀ (n o : Nat), (∀ i, i < n → ∃ x, A x b (o + i * k)) → ∃ l : List α, l.length = n ∧ Row A k l b o
  | 0, _, _ => ⟨[], rfl, trivial⟩
  | n + 1, o, h => by
    obtain ⟨x, hx⟩ := h 0 (Nat.succ_pos _)
    obtain ⟨l, hl, hr⟩ := Row.of (A := A) n (o + k) fun i hi => by
      obtain ⟨y, hy⟩ := h (i + 1) (by omega)
      exact ⟨y, by rw [show o + k + i * k = o + (i + 1) * k by rw [Nat.add_mul]; omega]; exact hy⟩
    exact ⟨x :: l, by simp [hl], by simpa using hx, hr⟩
/-- a slice of such -/
def RowIn {α : Type} (N : Nat) (A : α → Nat → Nat → Prop) (k : Nat) (l : List α) (p : Option Addr) : Prop := Sl N p l.length (Row A k l)
theorem RowIn.imp {α : Type} {N M : Nat} {A B : α → Nat → Nat → Prop} {k : Nat} {l : List α} {p : Option Addr} (h : RowIn N A k l p) (hN : N ≤ M) (H : ∀ x b o, b < N → A x b o → B x b o) : RowIn M B k l p :=
  Sl.imp h hN fun b o hb => Row.imp (fun x o => H x b o hb) l o

/-- a text's cell -/
def StrAt (w : World) (x : List UInt8) (b o : Nat) : Prop := w.cell? ⟨b, o, none⟩ = some (.string (str x))
structure Rgn where
  (name : List UInt8) (addr size : Int) (secret : Bool)
structure Vr where
  (name : List UInt8) (kind size : Int) (secret : Bool)
def Rgn.At (w : World) (x : Rgn) (b o : Nat) : Prop :=
  w.cell? ⟨b, o, none⟩ = some (.string (str x.name)) ∧ w.cell? ⟨b, o + 1, none⟩ = some (.int .i64 x.addr) ∧ w.cell? ⟨b, o + 2, none⟩ = some (.int .i64 x.size) ∧ w.cell? ⟨b, o + 3, none⟩ = some (.bool x.secret)
def Vr.At (w : World) (x : Vr) (b o : Nat) : Prop :=
  w.cell? ⟨b, o, none⟩ = some (.string (str x.name)) ∧ w.cell? ⟨b, o + 1, none⟩ = some (.int .i64 x.kind) ∧ w.cell? ⟨b, o + 2, none⟩ = some (.int .i64 x.size) ∧ w.cell? ⟨b, o + 3, none⟩ = some (.bool x.secret)

mutual
inductive St where
  | mk (kind : Int) (name : List UInt8) (names : List (List UInt8)) (e a : Ex) (args : Exs) (low high : Nat) (body els : Sts)
inductive Sts where
  | nil
  | cons (x : St) (rest : Sts)
end
def Sts.len : Sts → Nat
  | .nil => 0
  | .cons _ r => r.len + 1
mutual
def St.size : St → Nat
  | .mk _ _ _ _ _ _ _ _ b e => b.size + e.size + 1
def Sts.size : Sts → Nat
  | .nil => 0
  | .cons x r => x.size + r.size + 1
end
def St.kind : St → Int | .mk k _ _ _ _ _ _ _ _ _ => k
def St.name : St → List UInt8 | .mk _ n _ _ _ _ _ _ _ _ => n
def St.names : St → List (List UInt8) | .mk _ _ n _ _ _ _ _ _ _ => n
def St.e : St → Ex | .mk _ _ _ e _ _ _ _ _ _ => e
def St.a : St → Ex | .mk _ _ _ _ a _ _ _ _ _ => a
def St.args : St → Exs | .mk _ _ _ _ _ g _ _ _ _ => g
def St.low : St → Nat | .mk _ _ _ _ _ _ l _ _ _ => l
def St.high : St → Nat | .mk _ _ _ _ _ _ _ h _ _ => h
def St.body : St → Sts | .mk _ _ _ _ _ _ _ _ b _ => b
def St.els : St → Sts | .mk _ _ _ _ _ _ _ _ _ e => e
mutual
def St.At (w : World) (N : Nat) : St → Nat → Nat → Prop
  | .mk kd nm ns e a as' lo hi bd el, b, o =>
    (w.cell? ⟨b, o, none⟩ = some (.int .i64 kd) ∧ w.cell? ⟨b, o + 1, none⟩ = some (.string (str nm)) ∧ w.cell? ⟨b, o + 12, none⟩ = some (.int .u64 (lo : Int)) ∧ w.cell? ⟨b, o + 13, none⟩ = some (.int .u64 (hi : Int)) ∧ lo < 18446744073709551616 ∧ hi < 18446744073709551616) ∧
    (∃ p c, w.cell? ⟨b, o + 2, none⟩ = some (.slice p ns.length c) ∧ (ns.length ≤ c ∧ RowIn N (StrAt w) 1 ns p)) ∧
    Ex.At w N e b (o + 3) ∧ Ex.At w N a b (o + 7) ∧
    (∃ p c, w.cell? ⟨b, o + 11, none⟩ = some (.slice p as'.len c) ∧ as'.In w N p) ∧
    (∃ p c, w.cell? ⟨b, o + 14, none⟩ = some (.slice p bd.len c) ∧ Sl N p bd.len (Sts.At w N bd)) ∧
    (∃ p c, w.cell? ⟨b, o + 15, none⟩ = some (.slice p el.len c) ∧ Sl N p el.len (Sts.At w N el))
def Sts.At (w : World) (N : Nat) : Sts → Nat → Nat → Prop
  | .nil, _, _ => True
  | .cons x r, b, o => St.At w N x b o ∧ Sts.At w N r b (o + 16)
end
def Sts.In (w : World) (N : Nat) (l : Sts) (p : Option Addr) : Prop := Sl N p l.len (Sts.At w N l)
theorem StrAt.later {w w' : World} {N : Nat} (hw : Below N w w') (x : List UInt8) (b o : Nat) (hb : b < N) (h : StrAt w x b o) : StrAt w' x b o := (hw.cell hb).trans h
theorem Rgn.At.later {w w' : World} {N : Nat} (hw : Below N w w') (x : Rgn) (b o : Nat) (hb : b < N) (h : x.At w b o) : x.At w' b o :=
  ⟨(hw.cell hb).trans h.1, (hw.cell hb).trans h.2.1, (hw.cell hb).trans h.2.2.1, (hw.cell hb).trans h.2.2.2⟩
theorem Vr.At.later {w w' : World} {N : Nat} (hw : Below N w w') (x : Vr) (b o : Nat) (hb : b < N) (h : x.At w b o) : x.At w' b o :=
  ⟨(hw.cell hb).trans h.1, (hw.cell hb).trans h.2.1, (hw.cell hb).trans h.2.2.1, (hw.cell hb).trans h.2.2.2⟩
mutual
theorem St.At.later {w w' : World} {N M : Nat} (hw : Below N w w') (hM : N ≤ M) : ∀ (x : St) (b o : Nat), b < N → St.At w N x b o → St.At w' M x b o
  | .mk kd nm ns e a as' lo hi bd el, b, o, hb, h => by
    obtain ⟨⟨h0, h1, h2, h3, h4, h5⟩, ⟨p1, c1, g1, s1⟩, he, ha, ⟨p2, c2, g2, s2⟩, ⟨p3, c3, g3, s3⟩, ⟨p4, c4, g4, s4⟩⟩ := h
    exact ⟨⟨(hw.cell hb).trans h0, (hw.cell hb).trans h1, (hw.cell hb).trans h2, (hw.cell hb).trans h3, h4, h5⟩,
      ⟨p1, c1, (hw.cell hb).trans g1, s1.1, s1.2.imp hM (StrAt.later hw)⟩, Ex.At.later hw hM e b _ hb he, Ex.At.later hw hM a b _ hb ha,
      ⟨p2, c2, (hw.cell hb).trans g2, s2.later hw hM⟩,
      ⟨p3, c3, (hw.cell hb).trans g3, s3.imp hM fun b' o' hb' ha' => Sts.At.later hw hM bd b' o' hb' ha'⟩,
      ⟨p4, c4, (hw.cell hb).trans g4, s4.imp hM fun b' o' hb' ha' => Sts.At.later hw hM el b' o' hb' ha'⟩⟩
theorem Sts.At.later {w w' : World} {N M : Nat} (hw : Below N w w') (hM : N ≤ M) : ∀ (l : Sts) (b o : Nat), b < N → Sts.At w N l b o → Sts.At w' M l b o
  | .nil, _, _, _, _ => trivial
  | .cons x r, b, o, hb, h => ⟨St.At.later hw hM x b o hb h.1, Sts.At.later hw hM r b (o + 16) hb h.2⟩
end
theorem Sts.In.later {w w' : World} {N M : Nat} {l : Sts} {p : Option Addr} (h : l.In w N p) (hw : Below N w w') (hM : N ≤ M) : l.In w' M p :=
  Sl.imp h hM fun b o hb ha => Sts.At.later hw hM l b o hb ha

/-- where a statement's slices lie -/
structure StP where
  (pn pe pa pg pb pl : Option Addr) (cn ce ca cg cb cl : Nat)
def St.Ok (w : World) (N : Nat) (x : St) (s : StP) : Prop :=
  (x.names.length ≤ s.cn ∧ RowIn N (StrAt w) 1 x.names s.pn) ∧ x.e.Ok w N s.pe ∧ x.a.Ok w N s.pa ∧ x.args.In w N s.pg ∧ x.body.In w N s.pb ∧ x.els.In w N s.pl ∧ x.low < 18446744073709551616 ∧ x.high < 18446744073709551616
theorem St.Ok.later {w w' : World} {N M : Nat} {x : St} {s : StP} (h : x.Ok w N s) (hw : Below N w w') (hM : N ≤ M) : x.Ok w' M s :=
  ⟨⟨h.1.1, h.1.2.imp hM (StrAt.later hw)⟩, h.2.1.later hw hM, h.2.2.1.later hw hM, h.2.2.2.1.later hw hM, h.2.2.2.2.1.later hw hM, h.2.2.2.2.2.1.later hw hM, h.2.2.2.2.2.2⟩
/-- its cells -/
def St.cells (x : St) (s : StP) : Array Value :=
  #[.int .i64 x.kind, .string (str x.name), .slice s.pn x.names.length s.cn, .int .i64 x.e.op, .int .u64 (x.e.word : Int), .string (str x.e.name), .slice s.pe x.e.args.len s.ce, .int .i64 x.a.op, .int .u64 (x.a.word : Int), .string (str x.a.name), .slice s.pa x.a.args.len s.ca,
    .slice s.pg x.args.len s.cg, .int .u64 (x.low : Int), .int .u64 (x.high : Int), .slice s.pb x.body.len s.cb, .slice s.pl x.els.len s.cl]
/-- a statement as a value -/
def St.val (x : St) (s : StP) : Value := .agg (x.cells s)
theorem Ex.At.open' {w : World} {N : Nat} {x : Ex} {b o : Nat} (h : x.At w N b o) : ∃ p c, w.cell? ⟨b, o, none⟩ = some (.int .i64 x.op) ∧ w.cell? ⟨b, o + 1, none⟩ = some (.int .u64 (x.word : Int)) ∧ w.cell? ⟨b, o + 2, none⟩ = some (.string (str x.name)) ∧ w.cell? ⟨b, o + 3, none⟩ = some (.slice p x.args.len c) ∧ x.Ok w N p := by
  obtain ⟨op, wd, nm, ar⟩ := x
  obtain ⟨⟨h0, h1, h2, h3⟩, ⟨p, c, h4, s4⟩⟩ := h
  exact ⟨p, c, h0, h1, h2, h4, s4, h3⟩
/-- a statement that lies in a row: its cells, and that it is one -/
theorem St.At.open {w : World} {N : Nat} {x : St} {b o : Nat} (h : x.At w N b o) : ∃ s : StP, (∀ j v, (x.cells s)[j]? = some v → w.cell? ⟨b, o + j, none⟩ = some v) ∧ x.Ok w N s := by
  obtain ⟨kd, nm, ns, e, a, as', lo, hi, bd, el⟩ := x
  obtain ⟨⟨h0, h1, h2, h3, h4, h5⟩, ⟨p1, c1, g1, s1⟩, he, ha, ⟨p2, c2, g2, s2⟩, ⟨p3, c3, g3, s3⟩, ⟨p4, c4, g4, s4⟩⟩ := h
  obtain ⟨pe, ce, e0, e1, e2, e3, oke⟩ := he.open'
  obtain ⟨pa, ca, a0, a1, a2, a3, oka⟩ := ha.open'
  refine ⟨⟨p1, pe, pa, p2, p3, p4, c1, ce, ca, c2, c3, c4⟩, ?_, s1, oke, oka, s2, s3, s4, h4, h5⟩
  intro j v hv
  rcases j with _ | _ | _ | _ | _ | _ | _ | _ | _ | _ | _ | _ | _ | _ | _ | _ | j
  all_goals first | (cases hv; assumption) | (simp [St.cells] at hv)

structure Fnc where
  (name : List UInt8) (params vars : List Vr) (rets : List (List UInt8)) (body : Sts)
def Fnc.At (w : World) (N : Nat) (x : Fnc) (b o : Nat) : Prop :=
  w.cell? ⟨b, o, none⟩ = some (.string (str x.name)) ∧
  (∃ p c, w.cell? ⟨b, o + 1, none⟩ = some (.slice p x.params.length c) ∧ RowIn N (Vr.At w) 4 x.params p) ∧
  (∃ p c, w.cell? ⟨b, o + 2, none⟩ = some (.slice p x.vars.length c) ∧ RowIn N (Vr.At w) 4 x.vars p) ∧
  (∃ p c, w.cell? ⟨b, o + 3, none⟩ = some (.slice p x.rets.length c) ∧ (x.rets.length ≤ c ∧ RowIn N (StrAt w) 1 x.rets p)) ∧
  (∃ p c, w.cell? ⟨b, o + 4, none⟩ = some (.slice p x.body.len c) ∧ x.body.In w N p)
structure FncP where
  (pp pv pr pb : Option Addr) (cp cv cr cb : Nat)
def Fnc.Ok (w : World) (N : Nat) (x : Fnc) (s : FncP) : Prop :=
  RowIn N (Vr.At w) 4 x.params s.pp ∧ RowIn N (Vr.At w) 4 x.vars s.pv ∧ (x.rets.length ≤ s.cr ∧ RowIn N (StrAt w) 1 x.rets s.pr) ∧ x.body.In w N s.pb
theorem Fnc.Ok.later {w w' : World} {N M : Nat} {x : Fnc} {s : FncP} (h : x.Ok w N s) (hw : Below N w w') (hM : N ≤ M) : x.Ok w' M s :=
  ⟨h.1.imp hM (Vr.At.later hw), h.2.1.imp hM (Vr.At.later hw), ⟨h.2.2.1.1, h.2.2.1.2.imp hM (StrAt.later hw)⟩, h.2.2.2.later hw hM⟩
def Fnc.cells (x : Fnc) (s : FncP) : Array Value :=
  #[.string (str x.name), .slice s.pp x.params.length s.cp, .slice s.pv x.vars.length s.cv, .slice s.pr x.rets.length s.cr, .slice s.pb x.body.len s.cb]
def Fnc.val (x : Fnc) (s : FncP) : Value := .agg (x.cells s)
theorem Fnc.At.later {w w' : World} {N M : Nat} (hw : Below N w w') (hM : N ≤ M) (x : Fnc) (b o : Nat) (hb : b < N) (h : x.At w N b o) : x.At w' M b o := by
  obtain ⟨h0, ⟨p1, c1, g1, s1⟩, ⟨p2, c2, g2, s2⟩, ⟨p3, c3, g3, s3⟩, ⟨p4, c4, g4, s4⟩⟩ := h
  exact ⟨(hw.cell hb).trans h0, ⟨p1, c1, (hw.cell hb).trans g1, s1.imp hM (Vr.At.later hw)⟩, ⟨p2, c2, (hw.cell hb).trans g2, s2.imp hM (Vr.At.later hw)⟩, ⟨p3, c3, (hw.cell hb).trans g3, s3.1, s3.2.imp hM (StrAt.later hw)⟩, ⟨p4, c4, (hw.cell hb).trans g4, s4.later hw hM⟩⟩
theorem Fnc.At.open {w : World} {N : Nat} {x : Fnc} {b o : Nat} (h : x.At w N b o) : ∃ s : FncP, (∀ j v, (x.cells s)[j]? = some v → w.cell? ⟨b, o + j, none⟩ = some v) ∧ x.Ok w N s := by
  obtain ⟨h0, ⟨p1, c1, g1, s1⟩, ⟨p2, c2, g2, s2⟩, ⟨p3, c3, g3, s3⟩, ⟨p4, c4, g4, s4⟩⟩ := h
  refine ⟨⟨p1, p2, p3, p4, c1, c2, c3, c4⟩, ?_, s1, s2, s3, s4⟩
  intro j v hv
  rcases j with _ | _ | _ | _ | _ | j
  all_goals first | (cases hv; assumption) | (simp [Fnc.cells] at hv)
structure Prg where
  (regs : List Rgn) (fns : List Fnc)
def Prg.Ok (w : World) (N : Nat) (x : Prg) (p q : Option Addr) : Prop := RowIn N (Rgn.At w) 4 x.regs p ∧ RowIn N (Fnc.At w N) 5 x.fns q
theorem Prg.Ok.later {w w' : World} {N M : Nat} {x : Prg} {p q : Option Addr} (h : x.Ok w N p q) (hw : Below N w w') (hM : N ≤ M) : x.Ok w' M p q :=
  ⟨h.1.imp hM (Rgn.At.later hw), h.2.imp hM (Fnc.At.later hw hM)⟩
def Prg.val (x : Prg) (p q : Option Addr) (c d : Nat) : Value := .agg #[.slice p x.regs.length c, .slice q x.fns.length d]
end Go.Proofs.YtkjhofnkgcjcoaaDoor
/- Two rows are the same: slices.Equal, and the document's. -/
namespace Go.Proofs.YtkjhofnkgcjcoaaDoor
open Go.RowKit

noncomputable def eqB {α : Type} (l m : α) : Bool := @decide (l = m) (Classical.propDecidable _)
theorem eqB_true {α : Type} {l m : α} (h : l = m) : true = eqB l m := by unfold eqB; exact (@decide_eq_true _ (Classical.propDecidable _) h).symm
theorem eqB_false {α : Type} {l m : α} (h : ¬ l = m) : false = eqB l m := by unfold eqB; exact (@decide_eq_false _ (Classical.propDecidable _) h).symm
theorem str_inj {a b : List UInt8} (h : str a = str b) : a = b := by
  have := congrArg (fun x : ByteArray => x.data.toList) h
  simpa [str_data] using this
theorem str_beq_ne {a b : List UInt8} (h : ¬ a = b) : ((str a).toList == (str b).toList) = false := by
  rw [Lib.toList_data, Lib.toList_data, str_data, str_data]; simpa using h
theorem str_beq_eq (a : List UInt8) : ((str a).toList == (str a).toList) = true := by simp
theorem neq_rgn_eq (x : Rgn) (w : World) : (binOp .neq 81 (.agg #[.string (str x.name), .int .i64 x.addr, .int .i64 x.size, .bool x.secret]) (.agg #[.string (str x.name), .int .i64 x.addr, .int .i64 x.size, .bool x.secret])).run Tryd.prog w = .ok (.bool false) w := by
  simp [go_sem]
theorem neq_vr_eq (x : Vr) (w : World) : (binOp .neq 48 (.agg #[.string (str x.name), .int .i64 x.kind, .int .i64 x.size, .bool x.secret]) (.agg #[.string (str x.name), .int .i64 x.kind, .int .i64 x.size, .bool x.secret])).run Tryd.prog w = .ok (.bool false) w := by
  simp [go_sem]
theorem neq_rgn_ne {x y : Rgn} (h : ¬ x = y) (w : World) : (binOp .neq 81 (.agg #[.string (str x.name), .int .i64 x.addr, .int .i64 x.size, .bool x.secret]) (.agg #[.string (str y.name), .int .i64 y.addr, .int .i64 y.size, .bool y.secret])).run Tryd.prog w = .ok (.bool true) w := by
  obtain ⟨a, b, c, d⟩ := x
  obtain ⟨a', b', c', d'⟩ := y
  by_cases h1 : a = a'
  · by_cases h2 : b = b'
    · by_cases h3 : c = c'
      · have h4 : ¬ d = d' := fun h4 => h (by rw [h1, h2, h3, h4])
        subst h1; subst h2; subst h3
        simp [go_sem, h4]
      · simp [go_sem, h1, h2, h3]
    · simp [go_sem, h1, h2]
  · have := str_beq_ne h1
    simp [go_sem, this]
theorem neq_vr_ne {x y : Vr} (h : ¬ x = y) (w : World) : (binOp .neq 48 (.agg #[.string (str x.name), .int .i64 x.kind, .int .i64 x.size, .bool x.secret]) (.agg #[.string (str y.name), .int .i64 y.kind, .int .i64 y.size, .bool y.secret])).run Tryd.prog w = .ok (.bool true) w := by
  obtain ⟨a, b, c, d⟩ := x
  obtain ⟨a', b', c', d'⟩ := y
  by_cases h1 : a = a'
  · by_cases h2 : b = b'
    · by_cases h3 : c = c'
      · have h4 : ¬ d = d' := fun h4 => h (by rw [h1, h2, h3, h4])
        subst h1; subst h2; subst h3
        simp [go_sem, h4]
      · simp [go_sem, h1, h2, h3]
    · simp [go_sem, h1, h2]
  · have := str_beq_ne h1
    simp [go_sem, this]

end Go.Proofs.YtkjhofnkgcjcoaaDoor
/- Two expressions are the same: the loops. -/
namespace Go.Proofs.YtkjhofnkgcjcoaaDoor
open Go.RowKit

theorem eqB_of_true {α : Type} {a b : α} (h : eqB a b = true) : a = b := by unfold eqB at h; exact @of_decide_eq_true _ (Classical.propDecidable _) h
theorem eqB_of_false {α : Type} {a b : α} (h : eqB a b = false) : ¬ a = b := by unfold eqB at h; exact @of_decide_eq_false _ (Classical.propDecidable _) h
def Ex.valP (x : Ex) (s : Option Addr × Nat) : Value := x.val s.1 s.2
def Ex.OkP (w : World) (N : Nat) (x : Ex) (s : Option Addr × Nat) : Prop := x.Ok w N s.1
theorem Ex.OkP.later {w w' : World} {N M : Nat} {x : Ex} {s : Option Addr × Nat} (h : Ex.OkP w N x s) (hw : Below N w w') (hM : N ≤ M) : Ex.OkP w' M x s := Ex.Ok.later h hw hM
def Ex.cells (x : Ex) (s : Option Addr × Nat) : Array Value := #[.int .i64 x.op, .int .u64 (x.word : Int), .string (str x.name), .slice s.1 x.args.len s.2]
theorem Ex.At.openP {w : World} {N : Nat} {x : Ex} {b o : Nat} (h : x.At w N b o) : ∃ s : Option Addr × Nat, (∀ j v, (x.cells s)[j]? = some v → w.cell? ⟨b, o + j, none⟩ = some v) ∧ Ex.OkP w N x s := by
  obtain ⟨p, c, h0, h1, h2, h3, ok⟩ := h.open'
  refine ⟨⟨p, c⟩, ?_, ok⟩
  intro j v hv
  rcases j with _ | _ | _ | _ | j
  all_goals first | (cases hv; assumption) | (simp [Ex.cells] at hv)
def Exs.toL : Exs → List Ex
  | .nil => []
  | .cons x r => x :: r.toL
theorem Exs.toL_len : ∀ l : Exs, l.len = l.toL.length
  | .nil => rfl
  | .cons x r => by simp [Exs.len, Exs.toL, Exs.toL_len r]
theorem Exs.toL_inj : ∀ {l m : Exs}, l.toL = m.toL → l = m
  | .nil, .nil, _ => rfl
  | .nil, .cons _ _, h => by cases h
  | .cons _ _, .nil, h => by cases h
  | .cons x r, .cons y z, h => by simp only [Exs.toL, List.cons.injEq] at h; rw [h.1, Exs.toL_inj h.2]
theorem Exs.toL_size : ∀ {l : Exs} {x : Ex}, x ∈ l.toL → x.size < l.size
  | .cons y r, x, h => by
    rcases List.mem_cons.1 h with rfl | h
    · simp only [Exs.size]; omega
    · have := Exs.toL_size h; simp only [Exs.size]; omega
theorem Exs.row {w : World} {N b : Nat} : ∀ (l : Exs) (o : Nat), l.At w N b o → Row (Ex.At w N) 4 l.toL b o
  | .nil, _, _ => trivial
  | .cons _x r, o, h => ⟨h.1, Exs.row r (o + 4) h.2⟩
theorem Exs.rowIn {w : World} {N : Nat} {l : Exs} {p : Option Addr} (h : l.In w N p) : RowIn N (Ex.At w N) 4 l.toL p := by
  unfold RowIn
  rw [← Exs.toL_len]
  exact Sl.imp h (Nat.le_refl _) fun b o _ ha => Exs.row l o ha
theorem eqB_exs (l m : Exs) : eqB l.toL m.toL = eqB l m := by
  by_cases h : l = m
  · rw [← eqB_true h, ← eqB_true (by rw [h])]
  · rw [← eqB_false h, ← eqB_false fun e => h (Exs.toL_inj e)]

end Go.Proofs.YtkjhofnkgcjcoaaDoor
/- Two expressions are the same. -/
namespace Go.Proofs.YtkjhofnkgcjcoaaDoor
open Go.RowKit

theorem eqB_iff {α β : Type} {a b : α} {c d : β} (h : a = b ↔ c = d) : eqB a b = eqB c d := by
  by_cases k : a = b
  · rw [← eqB_true k, ← eqB_true (h.1 k)]
  · rw [← eqB_false k, ← eqB_false fun e => k (h.2 e)]

end Go.Proofs.YtkjhofnkgcjcoaaDoor
