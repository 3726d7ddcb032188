/- A1, S1, M1, M2, M3 as one. -/
import Derived.Test.YtihmibggonffdaaGreatProg
import Derived.WalkKit
import Derived.BigQuiet
import Derived.Deep.QuietTactic
import Derived.Lib.Hide
import Derived.Outline
import Derived.WalkMore
import Derived.Deep.CutBlock
import Derived.Deep.CutRange
import Derived.Lib.Strings
import Derived.Lib.IndexBytes
import Derived.Maps.OwnSet
import Derived.MapFrom
/- Expressions as they lie in memory. -/
namespace Go.Proofs.YtihmibggonffdaaGreat
open Go.RowKit

mutual
inductive Ex where
 | mk (op : Int) (word : Nat) (name : List UInt8) (args : Exs)
inductive Exs where
 | nil
 | cons (x : Ex) (rest : Exs)
end
def Exs.len : Exs → Nat
 | .nil => 0
 | .cons _ r => r.len + 1
mutual
def Ex.size : Ex → Nat
 | .mk _ _ _ a => a.size + 1
def Exs.size : Exs → Nat
 | .nil => 0
 | .cons x r => x.size + r.size + 1
end
def Ex.op : Ex → Int | .mk o _ _ _ => o
def Ex.word : Ex → Nat | .mk _ n _ _ => n
def Ex.name : Ex → List UInt8 | .mk _ _ n _ => n
def Ex.args : Ex → Exs | .mk _ _ _ a => a

def str (l : List UInt8) : ByteArray := ⟨l.toArray⟩
theorem str_data (l : List UInt8) : (str l).data.toList = l := rfl
theorem bytes_ext {a b : ByteArray} (h : a.data.toList = b.data.toList) : a = b := by
 obtain ⟨⟨x⟩⟩ := a; obtain ⟨⟨y⟩⟩ := b; cases h; rfl
theorem str_eta (s : ByteArray) : str s.data.toList = s := bytes_ext rfl
theorem size_len (s : ByteArray) : s.size = s.data.toList.length := by rw [Array.length_toList]; rfl
def Sl (N : Nat) (p : Option Addr) (n : Nat) (A : Nat → Nat → Prop) : Prop :=
 n ≤ 140737488355328 ∧ (n = 0 ∨ ∃ b o, p = some ⟨b, o, none⟩ ∧ b < N ∧ A b o)
mutual
def Ex.At (w : World) (N : Nat) : Ex → Nat → Nat → Prop
 | .mk op x nm as', b, o =>
   (w.cell? ⟨b, o, none⟩ = some (.int .i64 op) ∧ w.cell? ⟨b, o + 1, none⟩ = some (.int .u64 (x : Int)) ∧ w.cell? ⟨b, o + 2, none⟩ = some (.string (str nm)) ∧ x < 18446744073709551616) ∧
   (∃ p c, w.cell? ⟨b, o + 3, none⟩ = some (.slice p as'.len c) ∧ Sl N p as'.len (Exs.At w N as'))
def Exs.At (w : World) (N : Nat) : Exs → Nat → Nat → Prop
 | .nil, _, _ => True
 | .cons x r, b, o => Ex.At w N x b o ∧ Exs.At w N r b (o + 4)
end
def Exs.In (w : World) (N : Nat) (l : Exs) (p : Option Addr) : Prop := Sl N p l.len (Exs.At w N l)
theorem Sl.imp {N M : Nat} {p : Option Addr} {n : Nat} {A B : Nat → Nat → Prop} (h : Sl N p n A) (hN : N ≤ M) (hAB : ∀ b o, b < N → A b o → B b o) : Sl M p n B := by
 rcases h with ⟨hm, h | ⟨b, o, hp, hb, ha⟩⟩
 · exact ⟨hm, .inl h⟩
 · exact ⟨hm, .inr ⟨b, o, hp, Nat.lt_of_lt_of_le hb hN, hAB b o hb ha⟩⟩
mutual
theorem Ex.At.later {w w' : World} {N M : Nat} (hw : Below N w w') (hM : N ≤ M) : ∀ (x : Ex) (b o : Nat), b < N → Ex.At w N x b o → Ex.At w' M x b o
 | .mk op x nm as', b, o, hb, h => by
   obtain ⟨⟨h0, h1, h2, h3⟩, ⟨p, c, h4, s4⟩⟩ := h
   exact ⟨⟨(hw.cell hb).trans h0, (hw.cell hb).trans h1, (hw.cell hb).trans h2, h3⟩, ⟨p, c, (hw.cell hb).trans h4, s4.imp hM fun b' o' hb' ha => Exs.At.later hw hM as' b' o' hb' ha⟩⟩
theorem Exs.At.later {w w' : World} {N M : Nat} (hw : Below N w w') (hM : N ≤ M) : ∀ (l : Exs) (b o : Nat), b < N → Exs.At w N l b o → Exs.At w' M l b o
 | .nil, _, _, _, _ => trivial
 | .cons x r, b, o, hb, h => ⟨Ex.At.later hw hM x b o hb h.1, Exs.At.later hw hM r b (o + 4) hb h.2⟩
end
theorem Exs.In.later {w w' : World} {N M : Nat} {l : Exs} {p : Option Addr} (h : l.In w N p) (hw : Below N w w') (hM : N ≤ M) : l.In w' M p :=
 Sl.imp h hM fun b o hb ha => Exs.At.later hw hM l b o hb ha
theorem Exs.In.nil (w : World) (N : Nat) (p : Option Addr) : Exs.nil.In w N p := ⟨Nat.zero_le _, .inl rfl⟩
def Ex.val (x : Ex) (p : Option Addr) (c : Nat) : Value := .agg #[.int .i64 x.op, .int .u64 (x.word : Int), .string (str x.name), .slice p x.args.len c]
def Ex.Ok (w : World) (N : Nat) (x : Ex) (p : Option Addr) : Prop := x.args.In w N p ∧ x.word < 18446744073709551616
theorem Ex.Ok.later {w w' : World} {N M : Nat} {x : Ex} {p : Option Addr} (h : x.Ok w N p) (hw : Below N w w') (hM : N ≤ M) : x.Ok w' M p := ⟨h.1.later hw hM, h.2⟩
theorem ret_bool {a b : Bool} (h : a = b) : Ending.returned (.bool a) = .returned (.bool b) := by rw [h]
theorem below_drewN {B : Nat} {a w : World} (h : Below B a w) (n : Nat) : Below B a (w.drewN n) := by
 induction n with
 | zero => exact h
 | succ n ih => exact ih.drew
/- Statements, functions and programs as they lie in memory. -/
open Go.RowKit

def Row {α : Type} (A : α → Nat → Nat → Prop) (k : Nat) : List α → Nat → Nat → Prop
 | [], _, _ => True
 | x :: r, b, o => A x b o ∧ Row A k r b (o + k)
theorem Row.imp {α : Type} {A B : α → Nat → Nat → Prop} {k b : Nat} (h : ∀ x o, A x b o → B x b o) : ∀ (l : List α) (o : Nat), Row A k l b o → Row B k l b o
 | [], _, _ => trivial
 | x :: r, o, H => ⟨h x o H.1, Row.imp h r (o + k) H.2⟩
theorem Row.drop {α : Type} {A : α → Nat → Nat → Prop} {k b : Nat} : ∀ (l r : List α) (o : Nat), Row A k (l ++ r) b o → Row A k r b (o + l.length * k)
 | [], _, o, h => by simpa using h
 | x :: l, r, o, h => by
   have := Row.drop l r (o + k) h.2
   rw [show o + (x :: l).length * k = o + k + l.length * k by simp only [List.length_cons, Nat.add_mul]; omega]
   exact this
theorem Row.get {α : Type} {A : α → Nat → Nat → Prop} {k b o i : Nat} {l : List α} {x : α} (h : Row A k l b o) (hi : l[i]? = some x) : A x b (o + i * k) := by
 induction l generalizing o i with
 | nil => simp at hi
 | cons y r ih =>
   cases i with
   | zero => simp at hi; subst hi; simpa using h.1
   | succ i =>
     have := ih (o := o + k) (i := i) h.2 (by simpa using hi)
     rw [show o + (i + 1) * k = o + k + i * k by rw [Nat.add_mul]; omega]; exact this
theorem Row.of {α : Type} {A : α → Nat → Nat → Prop} {k b : Nat} : ∀ (n o : Nat), (∀ i, i < n → ∃ x, A x b (o + i * k)) → ∃ l : List α, l.length = n ∧ Row A k l b o
 | 0, _, _ => ⟨[], rfl, trivial⟩
 | n + 1, o, h => by
   obtain ⟨x, hx⟩ := h 0 (Nat.succ_pos _)
   obtain ⟨l, hl, hr⟩ := Row.of (A := A) n (o + k) fun i hi => by
     obtain ⟨y, hy⟩ := h (i + 1) (by omega)
     exact ⟨y, by rw [show o + k + i * k = o + (i + 1) * k by rw [Nat.add_mul]; omega]; exact hy⟩
   exact ⟨x :: l, by simp [hl], by simpa using hx, hr⟩
def RowIn {α : Type} (N : Nat) (A : α → Nat → Nat → Prop) (k : Nat) (l : List α) (p : Option Addr) : Prop := Sl N p l.length (Row A k l)
theorem RowIn.imp {α : Type} {N M : Nat} {A B : α → Nat → Nat → Prop} {k : Nat} {l : List α} {p : Option Addr} (h : RowIn N A k l p) (hN : N ≤ M) (H : ∀ x b o, b < N → A x b o → B x b o) : RowIn M B k l p :=
 Sl.imp h hN fun b o hb => Row.imp (fun x o => H x b o hb) l o

def StrAt (w : World) (x : List UInt8) (b o : Nat) : Prop := w.cell? ⟨b, o, none⟩ = some (.string (str x))
structure Rgn where
 (name : List UInt8) (addr size : Int) (secret : Bool)
structure Vr where
 (name : List UInt8) (kind size : Int) (secret : Bool)
def Rgn.At (w : World) (x : Rgn) (b o : Nat) : Prop :=
 w.cell? ⟨b, o, none⟩ = some (.string (str x.name)) ∧ w.cell? ⟨b, o + 1, none⟩ = some (.int .i64 x.addr) ∧ w.cell? ⟨b, o + 2, none⟩ = some (.int .i64 x.size) ∧ w.cell? ⟨b, o + 3, none⟩ = some (.bool x.secret)
def Vr.At (w : World) (x : Vr) (b o : Nat) : Prop :=
 w.cell? ⟨b, o, none⟩ = some (.string (str x.name)) ∧ w.cell? ⟨b, o + 1, none⟩ = some (.int .i64 x.kind) ∧ w.cell? ⟨b, o + 2, none⟩ = some (.int .i64 x.size) ∧ w.cell? ⟨b, o + 3, none⟩ = some (.bool x.secret)

mutual
inductive St where
 | mk (kind : Int) (name : List UInt8) (names : List (List UInt8)) (e a : Ex) (args : Exs) (low high : Nat) (body els : Sts)
inductive Sts where
 | nil
 | cons (x : St) (rest : Sts)
end
def Sts.len : Sts → Nat
 | .nil => 0
 | .cons _ r => r.len + 1
mutual
def St.size : St → Nat
 | .mk _ _ _ _ _ _ _ _ b e => b.size + e.size + 1
def Sts.size : Sts → Nat
 | .nil => 0
 | .cons x r => x.size + r.size + 1
end
def St.kind : St → Int | .mk k _ _ _ _ _ _ _ _ _ => k
def St.name : St → List UInt8 | .mk _ n _ _ _ _ _ _ _ _ => n
def St.names : St → List (List UInt8) | .mk _ _ n _ _ _ _ _ _ _ => n
def St.e : St → Ex | .mk _ _ _ e _ _ _ _ _ _ => e
def St.a : St → Ex | .mk _ _ _ _ a _ _ _ _ _ => a
def St.args : St → Exs | .mk _ _ _ _ _ g _ _ _ _ => g
def St.low : St → Nat | .mk _ _ _ _ _ _ l _ _ _ => l
def St.high : St → Nat | .mk _ _ _ _ _ _ _ h _ _ => h
def St.body : St → Sts | .mk _ _ _ _ _ _ _ _ b _ => b
def St.els : St → Sts | .mk _ _ _ _ _ _ _ _ _ e => e
mutual
def St.At (w : World) (N : Nat) : St → Nat → Nat → Prop
 | .mk kd nm ns e a as' lo hi bd el, b, o =>
   (w.cell? ⟨b, o, none⟩ = some (.int .i64 kd) ∧ w.cell? ⟨b, o + 1, none⟩ = some (.string (str nm)) ∧ w.cell? ⟨b, o + 12, none⟩ = some (.int .u64 (lo : Int)) ∧ w.cell? ⟨b, o + 13, none⟩ = some (.int .u64 (hi : Int)) ∧ lo < 18446744073709551616 ∧ hi < 18446744073709551616) ∧
   (∃ p c, w.cell? ⟨b, o + 2, none⟩ = some (.slice p ns.length c) ∧ (ns.length ≤ c ∧ RowIn N (StrAt w) 1 ns p)) ∧
   Ex.At w N e b (o + 3) ∧ Ex.At w N a b (o + 7) ∧
   (∃ p c, w.cell? ⟨b, o + 11, none⟩ = some (.slice p as'.len c) ∧ as'.In w N p) ∧
   (∃ p c, w.cell? ⟨b, o + 14, none⟩ = some (.slice p bd.len c) ∧ Sl N p bd.len (Sts.At w N bd)) ∧
   (∃ p c, w.cell? ⟨b, o + 15, none⟩ = some (.slice p el.len c) ∧ Sl N p el.len (Sts.At w N el))
def Sts.At (w : World) (N : Nat) : Sts → Nat → Nat → Prop
 | .nil, _, _ => True
 | .cons x r, b, o => St.At w N x b o ∧ Sts.At w N r b (o + 16)
end
def Sts.In (w : World) (N : Nat) (l : Sts) (p : Option Addr) : Prop := Sl N p l.len (Sts.At w N l)
theorem StrAt.later {w w' : World} {N : Nat} (hw : Below N w w') (x : List UInt8) (b o : Nat) (hb : b < N) (h : StrAt w x b o) : StrAt w' x b o := (hw.cell hb).trans h
theorem Rgn.At.later {w w' : World} {N : Nat} (hw : Below N w w') (x : Rgn) (b o : Nat) (hb : b < N) (h : x.At w b o) : x.At w' b o :=
 ⟨(hw.cell hb).trans h.1, (hw.cell hb).trans h.2.1, (hw.cell hb).trans h.2.2.1, (hw.cell hb).trans h.2.2.2⟩
theorem Vr.At.later {w w' : World} {N : Nat} (hw : Below N w w') (x : Vr) (b o : Nat) (hb : b < N) (h : x.At w b o) : x.At w' b o :=
 ⟨(hw.cell hb).trans h.1, (hw.cell hb).trans h.2.1, (hw.cell hb).trans h.2.2.1, (hw.cell hb).trans h.2.2.2⟩
mutual
theorem St.At.later {w w' : World} {N M : Nat} (hw : Below N w w') (hM : N ≤ M) : ∀ (x : St) (b o : Nat), b < N → St.At w N x b o → St.At w' M x b o
 | .mk kd nm ns e a as' lo hi bd el, b, o, hb, h => by
   obtain ⟨⟨h0, h1, h2, h3, h4, h5⟩, ⟨p1, c1, g1, s1⟩, he, ha, ⟨p2, c2, g2, s2⟩, ⟨p3, c3, g3, s3⟩, ⟨p4, c4, g4, s4⟩⟩ := h
   exact ⟨⟨(hw.cell hb).trans h0, (hw.cell hb).trans h1, (hw.cell hb).trans h2, (hw.cell hb).trans h3, h4, h5⟩,
     ⟨p1, c1, (hw.cell hb).trans g1, s1.1, s1.2.imp hM (StrAt.later hw)⟩, Ex.At.later hw hM e b _ hb he, Ex.At.later hw hM a b _ hb ha,
     ⟨p2, c2, (hw.cell hb).trans g2, s2.later hw hM⟩,
     ⟨p3, c3, (hw.cell hb).trans g3, s3.imp hM fun b' o' hb' ha' => Sts.At.later hw hM bd b' o' hb' ha'⟩,
     ⟨p4, c4, (hw.cell hb).trans g4, s4.imp hM fun b' o' hb' ha' => Sts.At.later hw hM el b' o' hb' ha'⟩⟩
theorem Sts.At.later {w w' : World} {N M : Nat} (hw : Below N w w') (hM : N ≤ M) : ∀ (l : Sts) (b o : Nat), b < N → Sts.At w N l b o → Sts.At w' M l b o
 | .nil, _, _, _, _ => trivial
 | .cons x r, b, o, hb, h => ⟨St.At.later hw hM x b o hb h.1, Sts.At.later hw hM r b (o + 16) hb h.2⟩
end
theorem Sts.In.later {w w' : World} {N M : Nat} {l : Sts} {p : Option Addr} (h : l.In w N p) (hw : Below N w w') (hM : N ≤ M) : l.In w' M p :=
 Sl.imp h hM fun b o hb ha => Sts.At.later hw hM l b o hb ha

structure StP where
 (pn pe pa pg pb pl : Option Addr) (cn ce ca cg cb cl : Nat)
def St.Ok (w : World) (N : Nat) (x : St) (s : StP) : Prop :=
 (x.names.length ≤ s.cn ∧ RowIn N (StrAt w) 1 x.names s.pn) ∧ x.e.Ok w N s.pe ∧ x.a.Ok w N s.pa ∧ x.args.In w N s.pg ∧ x.body.In w N s.pb ∧ x.els.In w N s.pl ∧ x.low < 18446744073709551616 ∧ x.high < 18446744073709551616
theorem St.Ok.later {w w' : World} {N M : Nat} {x : St} {s : StP} (h : x.Ok w N s) (hw : Below N w w') (hM : N ≤ M) : x.Ok w' M s :=
 ⟨⟨h.1.1, h.1.2.imp hM (StrAt.later hw)⟩, h.2.1.later hw hM, h.2.2.1.later hw hM, h.2.2.2.1.later hw hM, h.2.2.2.2.1.later hw hM, h.2.2.2.2.2.1.later hw hM, h.2.2.2.2.2.2⟩
def St.cells (x : St) (s : StP) : Array Value :=
 #[.int .i64 x.kind, .string (str x.name), .slice s.pn x.names.length s.cn, .int .i64 x.e.op, .int .u64 (x.e.word : Int), .string (str x.e.name), .slice s.pe x.e.args.len s.ce, .int .i64 x.a.op, .int .u64 (x.a.word : Int), .string (str x.a.name), .slice s.pa x.a.args.len s.ca,
   .slice s.pg x.args.len s.cg, .int .u64 (x.low : Int), .int .u64 (x.high : Int), .slice s.pb x.body.len s.cb, .slice s.pl x.els.len s.cl]
def St.val (x : St) (s : StP) : Value := .agg (x.cells s)
theorem Ex.At.open' {w : World} {N : Nat} {x : Ex} {b o : Nat} (h : x.At w N b o) : ∃ p c, w.cell? ⟨b, o, none⟩ = some (.int .i64 x.op) ∧ w.cell? ⟨b, o + 1, none⟩ = some (.int .u64 (x.word : Int)) ∧ w.cell? ⟨b, o + 2, none⟩ = some (.string (str x.name)) ∧ w.cell? ⟨b, o + 3, none⟩ = some (.slice p x.args.len c) ∧ x.Ok w N p := by
 obtain ⟨op, wd, nm, ar⟩ := x
 obtain ⟨⟨h0, h1, h2, h3⟩, ⟨p, c, h4, s4⟩⟩ := h
 exact ⟨p, c, h0, h1, h2, h4, s4, h3⟩
theorem St.At.open {w : World} {N : Nat} {x : St} {b o : Nat} (h : x.At w N b o) : ∃ s : StP, (∀ j v, (x.cells s)[j]? = some v → w.cell? ⟨b, o + j, none⟩ = some v) ∧ x.Ok w N s := by
 obtain ⟨kd, nm, ns, e, a, as', lo, hi, bd, el⟩ := x
 obtain ⟨⟨h0, h1, h2, h3, h4, h5⟩, ⟨p1, c1, g1, s1⟩, he, ha, ⟨p2, c2, g2, s2⟩, ⟨p3, c3, g3, s3⟩, ⟨p4, c4, g4, s4⟩⟩ := h
 obtain ⟨pe, ce, e0, e1, e2, e3, oke⟩ := he.open'
 obtain ⟨pa, ca, a0, a1, a2, a3, oka⟩ := ha.open'
 refine ⟨⟨p1, pe, pa, p2, p3, p4, c1, ce, ca, c2, c3, c4⟩, ?_, s1, oke, oka, s2, s3, s4, h4, h5⟩
 intro j v hv
 rcases j with _ | _ | _ | _ | _ | _ | _ | _ | _ | _ | _ | _ | _ | _ | _ | _ | j
 all_goals first | (cases hv; assumption) | (simp [St.cells] at hv)

structure Fnc where
 (name : List UInt8) (params vars : List Vr) (rets : List (List UInt8)) (body : Sts)
def Fnc.At (w : World) (N : Nat) (x : Fnc) (b o : Nat) : Prop :=
 w.cell? ⟨b, o, none⟩ = some (.string (str x.name)) ∧
 (∃ p c, w.cell? ⟨b, o + 1, none⟩ = some (.slice p x.params.length c) ∧ RowIn N (Vr.At w) 4 x.params p) ∧
 (∃ p c, w.cell? ⟨b, o + 2, none⟩ = some (.slice p x.vars.length c) ∧ RowIn N (Vr.At w) 4 x.vars p) ∧
 (∃ p c, w.cell? ⟨b, o + 3, none⟩ = some (.slice p x.rets.length c) ∧ (x.rets.length ≤ c ∧ RowIn N (StrAt w) 1 x.rets p)) ∧
 (∃ p c, w.cell? ⟨b, o + 4, none⟩ = some (.slice p x.body.len c) ∧ x.body.In w N p)
structure FncP where
 (pp pv pr pb : Option Addr) (cp cv cr cb : Nat)
def Fnc.Ok (w : World) (N : Nat) (x : Fnc) (s : FncP) : Prop :=
 RowIn N (Vr.At w) 4 x.params s.pp ∧ RowIn N (Vr.At w) 4 x.vars s.pv ∧ (x.rets.length ≤ s.cr ∧ RowIn N (StrAt w) 1 x.rets s.pr) ∧ x.body.In w N s.pb
theorem Fnc.Ok.later {w w' : World} {N M : Nat} {x : Fnc} {s : FncP} (h : x.Ok w N s) (hw : Below N w w') (hM : N ≤ M) : x.Ok w' M s :=
 ⟨h.1.imp hM (Vr.At.later hw), h.2.1.imp hM (Vr.At.later hw), ⟨h.2.2.1.1, h.2.2.1.2.imp hM (StrAt.later hw)⟩, h.2.2.2.later hw hM⟩
def Fnc.cells (x : Fnc) (s : FncP) : Array Value :=
 #[.string (str x.name), .slice s.pp x.params.length s.cp, .slice s.pv x.vars.length s.cv, .slice s.pr x.rets.length s.cr, .slice s.pb x.body.len s.cb]
def Fnc.val (x : Fnc) (s : FncP) : Value := .agg (x.cells s)
theorem Fnc.At.later {w w' : World} {N M : Nat} (hw : Below N w w') (hM : N ≤ M) (x : Fnc) (b o : Nat) (hb : b < N) (h : x.At w N b o) : x.At w' M b o := by
 obtain ⟨h0, ⟨p1, c1, g1, s1⟩, ⟨p2, c2, g2, s2⟩, ⟨p3, c3, g3, s3⟩, ⟨p4, c4, g4, s4⟩⟩ := h
 exact ⟨(hw.cell hb).trans h0, ⟨p1, c1, (hw.cell hb).trans g1, s1.imp hM (Vr.At.later hw)⟩, ⟨p2, c2, (hw.cell hb).trans g2, s2.imp hM (Vr.At.later hw)⟩, ⟨p3, c3, (hw.cell hb).trans g3, s3.1, s3.2.imp hM (StrAt.later hw)⟩, ⟨p4, c4, (hw.cell hb).trans g4, s4.later hw hM⟩⟩
theorem Fnc.At.open {w : World} {N : Nat} {x : Fnc} {b o : Nat} (h : x.At w N b o) : ∃ s : FncP, (∀ j v, (x.cells s)[j]? = some v → w.cell? ⟨b, o + j, none⟩ = some v) ∧ x.Ok w N s := by
 obtain ⟨h0, ⟨p1, c1, g1, s1⟩, ⟨p2, c2, g2, s2⟩, ⟨p3, c3, g3, s3⟩, ⟨p4, c4, g4, s4⟩⟩ := h
 refine ⟨⟨p1, p2, p3, p4, c1, c2, c3, c4⟩, ?_, s1, s2, s3, s4⟩
 intro j v hv
 rcases j with _ | _ | _ | _ | _ | j
 all_goals first | (cases hv; assumption) | (simp [Fnc.cells] at hv)
structure Prg where
 (regs : List Rgn) (fns : List Fnc)
def Prg.Ok (w : World) (N : Nat) (x : Prg) (p q : Option Addr) : Prop := RowIn N (Rgn.At w) 4 x.regs p ∧ RowIn N (Fnc.At w N) 5 x.fns q
theorem Prg.Ok.later {w w' : World} {N M : Nat} {x : Prg} {p q : Option Addr} (h : x.Ok w N p q) (hw : Below N w w') (hM : N ≤ M) : x.Ok w' M p q :=
 ⟨h.1.imp hM (Rgn.At.later hw), h.2.imp hM (Fnc.At.later hw hM)⟩
def Prg.val (x : Prg) (p q : Option Addr) (c d : Nat) : Value := .agg #[.slice p x.regs.length c, .slice q x.fns.length d]
/- What is asked, and the panic of what is refused. -/
open Go.RowKit

def seq (a b : Nat) : Nat := if a = 0 then b else a
theorem seq_ok {a b : Nat} (h : a = 0) : seq a b = b := if_pos h
theorem seq_no {a b : Nat} (h : a ≠ 0) : seq a b = a := if_neg h
def ask (b : Bool) (e : Nat) : Nat := if b then 0 else e
theorem ask_no {b : Bool} {e : Nat} (h : b = false) : ask b e = e := by rw [ask, h]; rfl
def Pn (r : Int) : Ending := .panicked [{ v := .iface 29 (.int .i64 r), recovered := false }]
inductive Chk (r : Nat) (w : World) : Ending → World → Prop where
 | ok {w' : World} (h : r = 0) (hB : Below w.heap.size w w') : Chk r w (.returned (.tuple #[])) w'
 | no {w' : World} (h : r ≠ 0) (hB : Below w.heap.size w w') : Chk r w (Pn (r : Int)) w'

theorem must_yes (e : Int) (w : World) : Calls Tryz.prog 79 #[.bool true, .int .i64 e] w fun z w' => z = .returned (.tuple #[]) ∧ w' = w := by
 go_enter Tryz.func79, Tryz.ntmps79
 go_wp2_with fail
 go_end0
 exact ⟨rfl, rfl⟩
theorem must_no (e : Int) (w : World) : Calls Tryz.prog 79 #[.bool false, .int .i64 e] w fun z w' => z = Pn e ∧ w' = w := by
 go_enter Tryz.func79, Tryz.ntmps79
 go_wp2_with fail
 exact ⟨rfl, rfl, rfl⟩
/- Names. -/
open Go.RowKit

def isLet (c : UInt8) : Bool := decide (97 ≤ c.toNat) && decide (c.toNat ≤ 122)
def isDig (c : UInt8) : Bool := decide (48 ≤ c.toNat) && decide (c.toNat ≤ 57)
def isPart (c : UInt8) : Bool := isLet c || isDig c || decide (c.toNat = 95)
def ownWords : List (List UInt8) := [[97, 114, 114, 97, 121], [101, 108, 115, 101], [102, 110], [102, 111, 114], [105, 102], [112, 105, 99, 107], [114, 101, 103, 105, 111, 110], [115, 101, 99, 114, 101, 116], [115, 116, 97, 99, 107], [118, 97, 114], [119, 104, 105, 108, 101]]
def ownB (l : List UInt8) : Bool := decide (l ∈ ownWords)
def nameB (l : List UInt8) : Bool := !l.isEmpty && decide (l.length ≤ 16) && isLet (l.headD 0) && !ownB l && l.all isPart

theorem let_any (c : UInt8) (w : World) : Calls Tryz.prog 124 #[.int .u8 (c.toNat : Int)] w fun e w' => e = .returned (.bool (isLet c)) ∧ w = w' := by
 have hb : c.toNat < 256 := c.toNat_lt
 unfold isLet
 by_cases h1 : 97 ≤ c.toNat
 · by_cases h2 : c.toNat ≤ 122
   · have e1 : decide ((97 : Int) ≤ (c.toNat : Int)) = true := decide_eq_true (by omega)
     have e2 : decide ((c.toNat : Int) ≤ 122) = true := decide_eq_true (by omega)
     go_enter Tryz.func124, Tryz.ntmps124
     go_wp2
     go_ret
     exact ⟨by simp [h1, h2], rfl⟩
   · have e1 : decide ((97 : Int) ≤ (c.toNat : Int)) = true := decide_eq_true (by omega)
     have e2 : decide ((c.toNat : Int) ≤ 122) = false := decide_eq_false (by omega)
     go_enter Tryz.func124, Tryz.ntmps124
     go_wp2
     go_ret
     exact ⟨by simp [h1, h2], rfl⟩
 · have e1 : decide ((97 : Int) ≤ (c.toNat : Int)) = false := decide_eq_false (by omega)
   go_enter Tryz.func124, Tryz.ntmps124
   go_wp2
   go_ret
   exact ⟨by simp [h1], rfl⟩

theorem own_split (l : List UInt8) : ownB l = ((l == [97, 114, 114, 97, 121]) || ((l == [101, 108, 115, 101]) || ((l == [102, 110]) || ((l == [102, 111, 114]) || ((l == [105, 102]) || ((l == [112, 105, 99, 107]) || ((l == [114, 101, 103, 105, 111, 110]) || ((l == [115, 101, 99, 114, 101, 116]) || ((l == [115, 116, 97, 99, 107]) || ((l == [118, 97, 114]) || ((l == [119, 104, 105, 108, 101])))))))))))  ) := by
 rw [Bool.eq_iff_iff]
 simp only [ownB, ownWords, List.mem_cons, List.not_mem_nil, or_false, decide_eq_true_eq, Bool.or_eq_true, beq_iff_eq]
theorem own_any (s : ByteArray) (w : World) : Calls Tryz.prog 125 #[.string s] w fun e w' => e = .returned (.bool (ownB s.data.toList)) ∧ w = w' := by
 rw [own_split, ← Go.Lib.toList_data]
 generalize e0 : (s.toList == [97, 114, 114, 97, 121]) = x0
 generalize e1 : (s.toList == [101, 108, 115, 101]) = x1
 generalize e2 : (s.toList == [102, 110]) = x2
 generalize e3 : (s.toList == [102, 111, 114]) = x3
 generalize e4 : (s.toList == [105, 102]) = x4
 generalize e5 : (s.toList == [112, 105, 99, 107]) = x5
 generalize e6 : (s.toList == [114, 101, 103, 105, 111, 110]) = x6
 generalize e7 : (s.toList == [115, 101, 99, 114, 101, 116]) = x7
 generalize e8 : (s.toList == [115, 116, 97, 99, 107]) = x8
 generalize e9 : (s.toList == [118, 97, 114]) = x9
 generalize e10 : (s.toList == [119, 104, 105, 108, 101]) = x10
 cases x0
 case true =>
   go_enter Tryz.func125, Tryz.ntmps125
   go_wp2
   go_ret
   exact ⟨rfl, rfl⟩
 cases x1
 case true =>
   go_enter Tryz.func125, Tryz.ntmps125
   go_wp2
   go_ret
   exact ⟨rfl, rfl⟩
 cases x2
 case true =>
   go_enter Tryz.func125, Tryz.ntmps125
   go_wp2
   go_ret
   exact ⟨rfl, rfl⟩
 cases x3
 case true =>
   go_enter Tryz.func125, Tryz.ntmps125
   go_wp2
   go_ret
   exact ⟨rfl, rfl⟩
 cases x4
 case true =>
   go_enter Tryz.func125, Tryz.ntmps125
   go_wp2
   go_ret
   exact ⟨rfl, rfl⟩
 cases x5
 case true =>
   go_enter Tryz.func125, Tryz.ntmps125
   go_wp2
   go_ret
   exact ⟨rfl, rfl⟩
 cases x6
 case true =>
   go_enter Tryz.func125, Tryz.ntmps125
   go_wp2
   go_ret
   exact ⟨rfl, rfl⟩
 cases x7
 case true =>
   go_enter Tryz.func125, Tryz.ntmps125
   go_wp2
   go_ret
   exact ⟨rfl, rfl⟩
 cases x8
 case true =>
   go_enter Tryz.func125, Tryz.ntmps125
   go_wp2
   go_ret
   exact ⟨rfl, rfl⟩
 cases x9
 case true =>
   go_enter Tryz.func125, Tryz.ntmps125
   go_wp2
   go_ret
   exact ⟨rfl, rfl⟩
 cases x10
 case true =>
   go_enter Tryz.func125, Tryz.ntmps125
   go_wp2
   go_ret
   exact ⟨rfl, rfl⟩
 go_enter Tryz.func125, Tryz.ntmps125
 go_wp2
 go_ret
 exact ⟨rfl, rfl⟩

theorem part_parts (c : UInt8) : isPart c = (isLet c || !(decide ((c.toNat : Int) < 48) || decide ((57 : Int) < (c.toNat : Int))) || !((c.toNat : Int) != 95)) := by
 have e1 : decide ((c.toNat : Int) < 48) = !decide (48 ≤ c.toNat) := by rw [Bool.eq_iff_iff]; simp; omega
 have e2 : decide ((57 : Int) < (c.toNat : Int)) = !decide (c.toNat ≤ 57) := by rw [Bool.eq_iff_iff]; simp; omega
 have e3 : ((c.toNat : Int) != 95) = !decide (c.toNat = 95) := by rw [Bool.eq_iff_iff]; simp; omega
 rw [e1, e2, e3]
 simp [isPart, isDig]
theorem isPart_take {l : List UInt8} {k : Nat} (h : (l.take k).all isPart = true) (hk : k < l.length) (hc : isPart l[k] = true) : (l.take (k + 1)).all isPart = true := by
 rw [List.take_succ_eq_append_getElem hk, List.all_append, h]; simp [hc]
theorem name_long {l : List UInt8} (h : 16 < l.length) : nameB l = false := by simp [nameB]; omega
theorem name_first {l : List UInt8} (h : isLet (l.headD 0) = false) : nameB l = false := by simp only [nameB, h, Bool.and_false, Bool.false_and]
theorem name_own {l : List UInt8} (h : ownB l = true) : nameB l = false := by simp only [nameB, h, Bool.not_true, Bool.and_false, Bool.false_and]
theorem name_part {l : List UInt8} {k : Nat} (hk : k < l.length) (h : isPart l[k] = false) : nameB l = false := by
 have : l.all isPart = false := by
   rw [Bool.eq_false_iff]
   intro ha
   rw [List.all_eq_true] at ha
   rw [ha _ (List.getElem_mem hk)] at h; cases h
 simp only [nameB, this, Bool.and_false]
theorem name_yes {l : List UInt8} (h0 : 0 < l.length) (h1 : l.length ≤ 16) (h2 : isLet (l.headD 0) = true) (h3 : ownB l = false) (h4 : (l.take l.length).all isPart = true) : nameB l = true := by
 rw [List.take_length] at h4
 cases l with
 | nil => simp at h0
 | cons c r => simp only [nameB, h2, h3, h4, decide_eq_true h1]; rfl
theorem head_get (l : List UInt8) (h : 0 < l.length) : l.headD 0 = l[0] := by
 cases l with
 | nil => simp at h
 | cons c r => rfl

set_option maxHeartbeats 1600000 in
theorem name_any (s : ByteArray) (w : World) : Calls Tryz.prog 99 #[.string s] w fun e w' => e = .returned (.bool (nameB s.data.toList)) ∧ w = w' := by
 by_cases h0 : s.size = 0
 · have h1 : s.data.toList = [] := List.eq_nil_of_length_eq_zero (by rw [← size_len]; exact h0)
   obtain rfl : s = ⟨#[]⟩ := bytes_ext h1
   go_enter Tryz.func99, Tryz.ntmps99
   go_wp2
   go_ret
   exact ⟨rfl, rfl⟩
 have hne : s.toList ≠ [] := fun h => h0 (by rw [size_len, ← Go.Lib.toList_data, h]; rfl)
 have e0 : s.toList.isEmpty = false := by cases h : s.toList with | nil => exact absurd h hne | cons _ _ => rfl
 have hpos : 0 < s.size := by omega
 clear h0
 by_cases h16 : 16 < s.size
 · have HF := Lib.hid (name_long (l := s.data.toList) (by rw [← size_len]; exact h16))
   go_enter Tryz.func99, Tryz.ntmps99
   go_wp2
   go_ret
   exact ⟨ret_bool HF.out.symm, rfl⟩
 have hlen : 0 < s.data.toList.length := by rw [← size_len]; exact hpos
 have hz : s.size ≤ 16 := by omega
 have hhd : s.data.toList.headD 0 = (s[0]'hpos) := head_get _ hlen
 have HL := Lib.hid (fun w => let_any (s[0]'hpos) w)
 have HFst := Lib.hid hhd
 clear hlen hhd
 cases hl : isLet (s[0]'hpos)
 · have HF := Lib.hid (name_first (l := s.data.toList) (by rw [HFst.out]; exact hl))
   rw [hl] at HL
   clear hl
   go_enter Tryz.func99, Tryz.ntmps99
   go_wp2_with (go_at_call 124; refine (HL.out _).mono ?_; rintro e w' ⟨rfl, rfl⟩)
   go_ret
   exact ⟨ret_bool HF.out.symm, rfl⟩
 rw [hl] at HL
 have HLt := Lib.hid hl
 clear hl
 have HO := Lib.hid (fun w => own_any s w)
 cases ho : ownB s.data.toList
 case true =>
   have HF := Lib.hid (name_own ho)
   rw [ho] at HO
   clear ho
   go_enter Tryz.func99, Tryz.ntmps99
   go_wp2_with (first | (go_at_call 124; refine (HL.out _).mono ?_; rintro e w' ⟨rfl, rfl⟩) | (go_at_call 125; refine (HO.out _).mono ?_; rintro e w' ⟨rfl, rfl⟩))
   go_ret
   exact ⟨ret_bool HF.out.symm, rfl⟩
 rw [ho] at HO
 have HOw := Lib.hid ho
 clear ho
 go_enter Tryz.func99, Tryz.ntmps99
 go_wp2_with (first | (go_at_call 124; refine (HL.out _).mono ?_; rintro e w' ⟨rfl, rfl⟩) | (go_at_call 125; refine (HO.out _).mono ?_; rintro e w' ⟨rfl, rfl⟩))
 
 
 go_loop [25] (fun i => ∃ k : Nat, i = .int .i64 k ∧ k ≤ s.size ∧ Hid ((s.data.toList.take k).all isPart = true)) (fun i => s.size - (intOf i).toNat)
 case atStart => exact ⟨0, rfl, by omega, Lib.hid rfl⟩
 case round =>
   obtain ⟨k, rfl, hk, hP⟩ := hrel
   by_cases hlt : k < s.size
   · have HLt' := Lib.hid (fun w => let_any (s[k]'hlt) w)
     have HS := Lib.hid (fun h => isPart_take (l := s.data.toList) (k := k) hP.out (by rw [← size_len]; exact hlt) h)
     have HN := Lib.hid (fun h => name_part (l := s.data.toList) (k := k) (by rw [← size_len]; exact hlt) h)
     have hg : s.data.toList[k]'(by rw [← size_len]; exact hlt) = s[k]'hlt := rfl
     rw [hg] at HS HN
     clear hg
     have hPt := part_parts (s[k]'hlt)
     rw [hPt] at HS HN
     clear hPt
     generalize isLet (s[k]'hlt) = a at *
     generalize e1 : decide (((s[k]'hlt).toNat : Int) < 48) = b at *
     generalize e2 : decide ((57 : Int) < ((s[k]'hlt).toNat : Int)) = c at *
     generalize e3 : (((s[k]'hlt).toNat : Int) != 95) = d at *
     have hk' : k + 1 ≤ s.size := hlt
     cases a <;> cases b <;> cases c <;> cases d <;>
     first
       | (have HF := Lib.hid (HN.out rfl)
          clear HN HS
          go_wp2_with (go_at_call 124; refine (HLt'.out _).mono ?_; rintro e w' ⟨rfl, rfl⟩)
          go_ret
          exact ⟨ret_bool HF.out.symm, rfl⟩)
       | (have HT := Lib.hid (HS.out rfl)
          clear HN HS
          go_wp2_with (go_at_call 124; refine (HLt'.out _).mono ?_; rintro e w' ⟨rfl, rfl⟩)
          go_round
          case rel => exact ⟨k + 1, by go_num, hk', HT⟩
          case measure => simp [intOf]; omega)
   · obtain rfl : k = s.size := by omega
     have HF := Lib.hid (name_yes (l := s.data.toList) (by rw [← size_len]; exact hpos) (by rw [← size_len]; exact hz) (by rw [HFst.out]; exact HLt.out) HOw.out (by rw [← size_len]; exact hP.out))
     go_wp2
     go_ret
     exact ⟨ret_bool HF.out.symm, rfl⟩

/- A map from texts to numbers that a call makes and counts in. -/
open Go.RowKit

def EsOf : List MapEntry → List (List UInt8 × Nat) → Prop
 | [], [] => True
 | e :: es, x :: T => e.key = .string (str x.1) ∧ e.val = .int .i64 (x.2 : Int) ∧ EsOf es T
 | _, _ => False
def gt : List (List UInt8 × Nat) → List UInt8 → Nat
 | [], _ => 0
 | x :: T, s => if s = x.1 then x.2 else gt T s
def bump : List (List UInt8 × Nat) → List UInt8 → List (List UInt8 × Nat)
 | [], s => [(s, 1)]
 | x :: T, s => if s = x.1 then (x.1, x.2 + 1) :: T else x :: bump T s
theorem gt_bump (T : List (List UInt8 × Nat)) (s s' : List UInt8) : gt (bump T s) s' = gt T s' + if s' = s then 1 else 0 := by
 induction T with
 | nil => by_cases h : s' = s <;> simp [bump, gt, h]
 | cons x T ih =>
   by_cases h : s = x.1
   · by_cases h' : s' = s
     · subst h'; simp [bump, gt, h]
     · have h2 : ¬ s' = x.1 := fun e => h' (e.trans h.symm)
       simp [bump, gt, h, h2]
   · by_cases h' : s' = x.1
     · have h2 : ¬ x.1 = s := fun e => h e.symm
       simp [bump, gt, h, h', h2]
     · simp [bump, gt, h, h', ih]
theorem beq_str (a b : List UInt8) : ((str a) == (str b)) = decide (a = b) := by
 rw [Bool.eq_iff_iff, MapKept.bytes_beq, decide_eq_true_eq]
 exact ⟨fun h => by rw [← str_data a, ← str_data b, h], fun h => by rw [h]⟩
theorem find_es : ∀ (es : List MapEntry) (T : List (List UInt8 × Nat)) (s : List UInt8) (j : Nat), EsOf es T →
   (gt T s = 0 ∧ bump T s = T ++ [(s, 1)] ∧ Instr.findNow .string (.string (str s)) es j = some none) ∨
   (∃ i, Instr.findNow .string (.string (str s)) es j = some (some (j + i, .int .i64 (gt T s : Int))) ∧ (es[i]?).map (·.key) = some (.string (str s)) ∧ ∀ v, v = Value.int .i64 ((gt T s + 1 : Nat) : Int) → EsOf (es.modify i fun e => { e with key := .string (str s), val := v }) (bump T s))
 | [], [], s, j, _ => .inl ⟨rfl, rfl, rfl⟩
 | [], _ :: _, _, _, h => by simp [EsOf] at h
 | _ :: _, [], _, _, h => by simp [EsOf] at h
 | e :: es, x :: T, s, j, h => by
   obtain ⟨hk, hv, hT⟩ := h
   by_cases hs : s = x.1
   · right
     refine ⟨0, ?_, ?_, ?_⟩
     · simp [Instr.findNow, Instr.sameNow, hk, hv, gt, hs, beq_str]
     · simp [hk, hs]
     · intro v hv'
       simp [List.modify, bump, hs, EsOf, hv', gt, hT]
   · have hb : ((str s) == (str x.1)) = false := by rw [beq_str]; simpa using hs
     rcases find_es es T s (j + 1) hT with ⟨h1, h2, h3⟩ | ⟨i, h1, h2, h3⟩
     · left
       refine ⟨by simp [gt, hs, h1], by simp [bump, hs, h2], ?_⟩
       simp [Instr.findNow, Instr.sameNow, hk, hb, h3]
     · right
       refine ⟨i + 1, ?_, by simpa using h2, ?_⟩
       · simp [Instr.findNow, Instr.sameNow, hk, hb, h1, gt, hs]; omega
       · intro v hv'
         have := h3 v (by rw [hv']; simp [gt, hs])
         simp only [List.modify_succ_cons, bump, hs, if_false]
         exact ⟨hk, hv, this⟩
theorem EsOf.push : ∀ (es : List MapEntry) (T : List (List UInt8 × Nat)) (s : List UInt8) (n : Nat), EsOf es T → EsOf (es ++ [{ key := .string (str s), val := .int .i64 1, born := n }]) (T ++ [(s, 1)])
 | [], [], _, _, _ => ⟨rfl, rfl, trivial⟩
 | [], _ :: _, _, _, h => by simp [EsOf] at h
 | _ :: _, [], _, _, h => by simp [EsOf] at h
 | e :: es, x :: T, s, n, h => ⟨h.1, h.2.1, EsOf.push es T s n h.2.2⟩

def Cm (w : World) (b : Nat) (f : List UInt8 → Nat) : Prop := ∃ es clock T, w.heap[b]? = some (.map es clock) ∧ EsOf es.toList T ∧ ∀ s, gt T s = f s
theorem Cm.of_block {w w' : World} {b : Nat} {f : List UInt8 → Nat} (h : Cm w b f) (e : w'.heap[b]? = w.heap[b]?) : Cm w' b f := by
 obtain ⟨es, clock, T, h1, h2⟩ := h
 exact ⟨es, clock, T, e.trans h1, h2⟩
theorem Cm.lt {w : World} {b : Nat} {f : List UInt8 → Nat} (h : Cm w b f) : b < w.heap.size := by
 obtain ⟨es, clock, T, h1, h2⟩ := h
 exact (Array.getElem?_eq_some_iff.1 h1).1
theorem Cm.later {w w' : World} {b : Nat} {f : List UInt8 → Nat} (h : Cm w b f) (hB : Below w.heap.size w w') : Cm w' b f := h.of_block (hB.block b h.lt)
theorem Cm.new (w : World) : Cm (w.alloc (.map #[] 0)) w.heap.size fun _ => 0 := ⟨#[], 0, [], heap_alloc_new _ _, trivial, fun _ => rfl⟩
section
variable {P : Program} {t k e : TypeId}
theorem Cm.look {w : World} {b : Nat} {f : List UInt8 → Nat} (h : Cm w b f) (ht : P.underlying t = some (.map k e)) (hk : P.underlying k = some .string) (hz : ∀ w, (zeroValue e).run P w = .ok (.int .i64 0) w) (s : List UInt8) :
   (Instr.lookup t (.map (some b)) (.string (str s)) false).run P w = .ok (.int .i64 (f s : Int)) w := by
 obtain ⟨es, clock, T, hb, hE, hf⟩ := h
 have hck := MapKept.run_checkKey hk (k := .string (str s)) (w := w) (show MapKept.IsKey .string (.string (str s)) from trivial)
 rw [← hf]
 rcases find_es es.toList T s 0 hE with ⟨h1, h2, h3⟩ | ⟨i, h1, h2, h3⟩
 · have hf := MapKept.run_findKey (P := P) (w := w) hk h3
   rw [h1]
   simp [Instr.lookup, run_underlying ht, MapKept.run_getObj_map hb, hck, hf, hz, Result.andThen]
 · have hf := MapKept.run_findKey (P := P) (w := w) hk h1
   simp [Instr.lookup, run_underlying ht, MapKept.run_getObj_map hb, hck, hf, Result.andThen]
theorem Cm.put {w : World} {b : Nat} {f : List UInt8 → Nat} (h : Cm w b f) (ht : P.underlying t = some (.map k e)) (hk : P.underlying k = some .string) (s : List UInt8) :
   ∃ w', (Instr.mapUpdate t (.map (some b)) (.string (str s)) (.int .i64 ((f s + 1 : Nat) : Int))).run P w = .ok () w' ∧ Cm w' b (fun s' => f s' + if s' = s then 1 else 0) ∧ w'.heap.size = w.heap.size ∧ (∀ j, j ≠ b → w'.heap[j]? = w.heap[j]?) ∧ w'.os = w.os ∧ w'.tape = w.tape ∧ w'.output = w.output := by
 obtain ⟨es, clock, T, hb, hE, hf⟩ := h
 have hck := MapKept.run_checkKey hk (k := .string (str s)) (w := w) (show MapKept.IsKey .string (.string (str s)) from trivial)
 have hlt : b < w.heap.size := (Array.getElem?_eq_some_iff.1 hb).1
 have key : ∀ es' clock' T', EsOf es'.toList T' → T' = bump T s → (∃ w', w' = { w with heap := w.heap.setIfInBounds b (.map es' clock') } ∧ Cm w' b (fun s' => f s' + if s' = s then 1 else 0) ∧ w'.heap.size = w.heap.size ∧ (∀ j, j ≠ b → w'.heap[j]? = w.heap[j]?) ∧ w'.os = w.os ∧ w'.tape = w.tape ∧ w'.output = w.output) := by
   intro es' clock' T' h1 h2
   refine ⟨_, rfl, ⟨es', clock', T', by simp [hlt], h1, fun s' => by rw [h2, gt_bump, hf]⟩, by simp, fun j hj => by simp [Ne.symm hj], rfl, rfl, rfl⟩
 rw [← hf]
 rcases find_es es.toList T s 0 hE with ⟨h1, h2, h3⟩ | ⟨i, h1, h2, h3⟩
 · have hfk := MapKept.run_findKey (P := P) (w := w) hk h3
   rw [h1]
   obtain ⟨w', rfl, r⟩ := key (es.push { key := .string (str s), val := .int .i64 1, born := clock }) (clock + 1) _ (by rw [Array.toList_push]; exact EsOf.push _ _ s clock hE) h2.symm
   refine ⟨_, ?_, r⟩
   simp [Instr.mapUpdate, run_underlying ht, MapKept.run_getObj_map hb, hck, hfk, MapKept.run_setObj_map _ hb, Result.andThen]
 · have hfk := MapKept.run_findKey (P := P) (w := w) hk h1
   rw [Nat.zero_add] at hfk
   have hky : (es[i]?).map (·.key) = some (.string (str s)) := by rw [← Array.getElem?_toList]; exact h2
   have hst := MapKept.run_keyThatStays (P := P) (w := w) (d := .string) (k := .string (str s)) (show MapKept.IsKey .string (.string (str s)) from trivial)
   obtain ⟨w', rfl, r⟩ := key (es.modify i fun e => { e with key := .string (str s), val := .int .i64 ((gt T s + 1 : Nat) : Int) }) clock _ (by rw [Array.toList_modify]; exact h3 _ rfl) rfl
   refine ⟨_, ?_, r⟩
   simp [Instr.mapUpdate, run_underlying ht, MapKept.run_getObj_map hb, hck, hfk, hky, hst, MapKept.run_setObj_map _ hb, Result.andThen]
end
end Go.Proofs.YtihmibggonffdaaGreat
