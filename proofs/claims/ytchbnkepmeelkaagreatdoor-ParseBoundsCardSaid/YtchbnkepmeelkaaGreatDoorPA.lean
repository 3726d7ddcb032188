/- A1, A2, S1, P0 as one. -/
import Derived.Test.YtchbnkepmeelkaaGreatDoorProg
import Derived.WalkKit
import Derived.BigQuiet
import Derived.Deep.QuietTactic
import Derived.Lib.Hide
import Derived.Outline
/- Expressions as they lie in memory. -/
namespace Go.Proofs.YtchbnkepmeelkaaGreatDoor
open Go.RowKit

mutual
inductive Ex where
  | mk (op : Int) (word : Nat) (name : List UInt8) (args : Exs)
inductive Exs where
  | nil
  | cons (x : Ex) (rest : Exs)
end
def Exs.len : Exs → Nat
  | .nil => 0
  | .cons _ r => r.len + 1
mutual
def Ex.size : Ex → Nat
  | .mk _ _ _ a => a.size + 1
def Exs.size : Exs → Nat
  | .nil => 0
  | .cons x r => x.size + r.size + 1
end
def Ex.op : Ex → Int | .mk o _ _ _ => o
def Ex.word : Ex → Nat | .mk _ n _ _ => n
def Ex.name : Ex → List UInt8 | .mk _ _ n _ => n
def Ex.args : Ex → Exs | .mk _ _ _ a => a

/-- a text out of its bytes -/
def str (l : List UInt8) : ByteArray := ⟨l.toArray⟩
theorem str_data (l : List UInt8) : (str l).data.toList = l := rfl
theorem bytes_ext {a b : ByteArray} (h : a.data.toList = b.data.toList) : a = b := by
  obtain ⟨⟨x⟩⟩ := a; obtain ⟨⟨y⟩⟩ := b; cases h; rfl
theorem str_eta (s : ByteArray) : str s.data.toList = s := bytes_ext rfl
theorem size_len (s : ByteArray) : s.size = s.data.toList.length := by rw [Array.length_toList]; rfl
theorem size_str (l : List UInt8) : (str l).size = l.length := by rw [size_len, str_data]
/-- a slice's place: nothing is asked of an empty one -/
def Sl (N : Nat) (p : Option Addr) (n : Nat) (A : Nat → Nat → Prop) : Prop :=
  n ≤ 140737488355328 ∧ (n = 0 ∨ ∃ b o, p = some ⟨b, o, none⟩ ∧ b < N ∧ A b o)
mutual
def Ex.At (w : World) (N : Nat) : Ex → Nat → Nat → Prop
  | .mk op x nm as', b, o =>
    (w.cell? ⟨b, o, none⟩ = some (.int .i64 op) ∧ w.cell? ⟨b, o + 1, none⟩ = some (.int .u64 (x : Int)) ∧ w.cell? ⟨b, o + 2, none⟩ = some (.string (str nm)) ∧ x < 18446744073709551616) ∧
    (∃ p c, w.cell? ⟨b, o + 3, none⟩ = some (.slice p as'.len c) ∧ Sl N p as'.len (Exs.At w N as'))
def Exs.At (w : World) (N : Nat) : Exs → Nat → Nat → Prop
  | .nil, _, _ => True
  | .cons x r, b, o => Ex.At w N x b o ∧ Exs.At w N r b (o + 4)
end
def Exs.In (w : World) (N : Nat) (l : Exs) (p : Option Addr) : Prop := Sl N p l.len (Exs.At w N l)
theorem Sl.imp {N M : Nat} {p : Option Addr} {n : Nat} {A B : Nat → Nat → Prop} (h : Sl N p n A) (hN : N ≤ M) (hAB : ∀ b o, b < N → A b o → B b o) : Sl M p n B := by
  rcases h with ⟨hm, h | ⟨b, o, hp, hb, ha⟩⟩
  · exact ⟨hm, .inl h⟩
  · exact ⟨hm, .inr ⟨b, o, hp, Nat.lt_of_lt_of_le hb hN, hAB b o hb ha⟩⟩
mutual
theorem Ex.At.later {w w' : World} {N M : Nat} (hw : Below N w w') (hM : N ≤ M) : ∀ (x : Ex) (b o : Nat), b < N → Ex.At w N x b o → Ex.At w' M x b o
  | .mk op x nm as', b, o, hb, h => by
    obtain ⟨⟨h0, h1, h2, h3⟩, ⟨p, c, h4, s4⟩⟩ := h
    exact ⟨⟨(hw.cell hb).trans h0, (hw.cell hb).trans h1, (hw.cell hb).trans h2, h3⟩, ⟨p, c, (hw.cell hb).trans h4, s4.imp hM fun b' o' hb' ha => Exs.At.later hw hM as' b' o' hb' ha⟩⟩
theorem Exs.At.later {w w' : World} {N M : Nat} (hw : Below N w w') (hM : N ≤ M) : ∀ (l : Exs) (b o : Nat), b < N → Exs.At w N l b o → Exs.At w' M l b o
  | .nil, _, _, _, _ => trivial
  | .cons x r, b, o, hb, h => ⟨Ex.At.later hw hM x b o hb h.1, Exs.At.later hw hM r b (o + 4) hb h.2⟩
end
theorem Exs.In.later {w w' : World} {N M : Nat} {l : Exs} {p : Option Addr} (h : l.In w N p) (hw : Below N w w') (hM : N ≤ M) : l.In w' M p :=
  Sl.imp h hM fun b o hb ha => Exs.At.later hw hM l b o hb ha
theorem Exs.In.nil (w : World) (N : Nat) (p : Option Addr) : Exs.nil.In w N p := ⟨Nat.zero_le _, .inl rfl⟩
/-- an expression as a value -/
def Ex.val (x : Ex) (p : Option Addr) (c : Nat) : Value := .agg #[.int .i64 x.op, .int .u64 (x.word : Int), .string (str x.name), .slice p x.args.len c]
/-- it is one: its arguments lie there -/
def Ex.Ok (w : World) (N : Nat) (x : Ex) (p : Option Addr) : Prop := x.args.In w N p ∧ x.word < 18446744073709551616
theorem Ex.Ok.later {w w' : World} {N M : Nat} {x : Ex} {p : Option Addr} (h : x.Ok w N p) (hw : Below N w w') (hM : N ≤ M) : x.Ok w' M p := ⟨h.1.later hw hM, h.2⟩
theorem ret_bool {a b : Bool} (h : a = b) : Ending.returned (.bool a) = .returned (.bool b) := by rw [h]
end Go.Proofs.YtchbnkepmeelkaaGreatDoor
/- How deep an expression is. -/
namespace Go.Proofs.YtchbnkepmeelkaaGreatDoor
open Go.RowKit

/-- an expression in a block of its own -/
theorem Ex.At.new {w : World} {N : Nat} {x : Ex} {p : Option Addr} {c : Nat} (h : x.Ok w N p) (hN : N ≤ w.heap.size) :
    x.At (w.alloc (.cells #[.int .i64 x.op, .int .u64 (x.word : Int), .string (str x.name), .slice p x.args.len c] 39)) (w.heap.size + 1) w.heap.size 0 := by
  have hB : Below N w (w.alloc (.cells #[.int .i64 x.op, .int .u64 (x.word : Int), .string (str x.name), .slice p x.args.len c] 39)) := (Below.refl _ _).alloc hN _
  have h2 := h.1.later hB (show N ≤ w.heap.size + 1 by omega)
  have h3 := h.2
  obtain ⟨op, wd, nm, ar⟩ := x
  simp only [Ex.args, Ex.op, Ex.word, Ex.name] at h2 h3 ⊢
  exact ⟨⟨by simp [go_sem], by simp [go_sem], by simp [go_sem], h3⟩, ⟨p, c, by simp [go_sem], h2⟩⟩

end Go.Proofs.YtchbnkepmeelkaaGreatDoor
/- Statements, functions and programs as they lie in memory. -/
namespace Go.Proofs.YtchbnkepmeelkaaGreatDoor
open Go.RowKit

/-- a row of things of k cells each -/
def Row {α : Type} (A : α → Nat → Nat → Prop) (k : Nat) : List α → Nat → Nat → Prop
  | [], _, _ => True
  | x :: r, b, o => A x b o ∧ Row A k r b (o + k)
theorem Row.imp {α : Type} {A B : α → Nat → Nat → Prop} {k b : Nat} (h : ∀ x o, A x b o → B x b o) : ∀ (l : List α) (o : Nat), Row A k l b o → Row B k l b o
  | [], _, _ => trivial
  | x :: r, o, H => ⟨h x o H.1, Row.imp h r (o + k) H.2⟩
theorem Row.drop {α : Type} {A : α → Nat → Nat → Prop} {k b : Nat} : ∀ (l r : List α) (o : Nat), Row A k (l ++ r) b o → Row A k r b (o + l.length * k)
  | [], _, o, h => by simpa using h
  | x :: l, r, o, h => by
    have := Row.drop l r (o + k) h.2
    rw [show o + (x :: l).length * k = o + k + l.length * k by simp only [List.length_cons, Nat.add_mul]; omega]
    exact this
theorem Row.of {α : Type} {A : α → Nat → Nat → Prop} {k b : Nat} : ∀ (n o : Nat), (∀ i, i < n → ∃ x, A x b (o + i * k)) → ∃ l : List α, l.length = n ∧ Row A k l b o
  | 0, _, _ => ⟨[], rfl, trivial⟩
  | n + 1, o, h => by
    obtain ⟨x, hx⟩ := h 0 (Nat.succ_pos _)
    obtain ⟨l, hl, hr⟩ := Row.of (A := A) n (o + k) fun i hi => by
      obtain ⟨y, hy⟩ := h (i + 1) (by omega)
      exact ⟨y, by rw [show o + k + i * k = o + (i + 1) * k by rw [Nat.add_mul]; omega]; exact hy⟩
    exact ⟨x :: l, by simp [hl], by simpa using hx, hr⟩
/-- a slice of such -/
def RowIn {α : Type} (N : Nat) (A : α → Nat → Nat → Prop) (k : Nat) (l : List α) (p : Option Addr) : Prop := Sl N p l.length (Row A k l)
theorem RowIn.imp {α : Type} {N M : Nat} {A B : α → Nat → Nat → Prop} {k : Nat} {l : List α} {p : Option Addr} (h : RowIn N A k l p) (hN : N ≤ M) (H : ∀ x b o, b < N → A x b o → B x b o) : RowIn M B k l p :=
  Sl.imp h hN fun b o hb => Row.imp (fun x o => H x b o hb) l o

/-- a text's cell -/
def StrAt (w : World) (x : List UInt8) (b o : Nat) : Prop := w.cell? ⟨b, o, none⟩ = some (.string (str x))
structure Rgn where
  (name : List UInt8) (addr size : Int) (secret : Bool)
structure Vr where
  (name : List UInt8) (kind size : Int) (secret : Bool)
def Rgn.At (w : World) (x : Rgn) (b o : Nat) : Prop :=
  w.cell? ⟨b, o, none⟩ = some (.string (str x.name)) ∧ w.cell? ⟨b, o + 1, none⟩ = some (.int .i64 x.addr) ∧ w.cell? ⟨b, o + 2, none⟩ = some (.int .i64 x.size) ∧ w.cell? ⟨b, o + 3, none⟩ = some (.bool x.secret)
def Vr.At (w : World) (x : Vr) (b o : Nat) : Prop :=
  w.cell? ⟨b, o, none⟩ = some (.string (str x.name)) ∧ w.cell? ⟨b, o + 1, none⟩ = some (.int .i64 x.kind) ∧ w.cell? ⟨b, o + 2, none⟩ = some (.int .i64 x.size) ∧ w.cell? ⟨b, o + 3, none⟩ = some (.bool x.secret)

mutual
inductive St where
  | mk (kind : Int) (name : List UInt8) (names : List (List UInt8)) (e a : Ex) (args : Exs) (low high : Nat) (body els : Sts)
inductive Sts where
  | nil
  | cons (x : St) (rest : Sts)
end
def Sts.len : Sts → Nat
  | .nil => 0
  | .cons _ r => r.len + 1
mutual
def St.size : St → Nat
  | .mk _ _ _ _ _ _ _ _ b e => b.size + e.size + 1
def Sts.size : Sts → Nat
  | .nil => 0
  | .cons x r => x.size + r.size + 1
end
def St.kind : St → Int | .mk k _ _ _ _ _ _ _ _ _ => k
def St.name : St → List UInt8 | .mk _ n _ _ _ _ _ _ _ _ => n
def St.names : St → List (List UInt8) | .mk _ _ n _ _ _ _ _ _ _ => n
def St.e : St → Ex | .mk _ _ _ e _ _ _ _ _ _ => e
def St.a : St → Ex | .mk _ _ _ _ a _ _ _ _ _ => a
def St.args : St → Exs | .mk _ _ _ _ _ g _ _ _ _ => g
def St.low : St → Nat | .mk _ _ _ _ _ _ l _ _ _ => l
def St.high : St → Nat | .mk _ _ _ _ _ _ _ h _ _ => h
def St.body : St → Sts | .mk _ _ _ _ _ _ _ _ b _ => b
def St.els : St → Sts | .mk _ _ _ _ _ _ _ _ _ e => e
mutual
def St.At (w : World) (N : Nat) : St → Nat → Nat → Prop
  | .mk kd nm ns e a as' lo hi bd el, b, o =>
    (w.cell? ⟨b, o, none⟩ = some (.int .i64 kd) ∧ w.cell? ⟨b, o + 1, none⟩ = some (.string (str nm)) ∧ w.cell? ⟨b, o + 12, none⟩ = some (.int .u64 (lo : Int)) ∧ w.cell? ⟨b, o + 13, none⟩ = some (.int .u64 (hi : Int)) ∧ lo < 18446744073709551616 ∧ hi < 18446744073709551616) ∧
    (∃ p c, w.cell? ⟨b, o + 2, none⟩ = some (.slice p ns.length c) ∧ (ns.length ≤ c ∧ RowIn N (StrAt w) 1 ns p)) ∧
    Ex.At w N e b (o + 3) ∧ Ex.At w N a b (o + 7) ∧
    (∃ p c, w.cell? ⟨b, o + 11, none⟩ = some (.slice p as'.len c) ∧ as'.In w N p) ∧
    (∃ p c, w.cell? ⟨b, o + 14, none⟩ = some (.slice p bd.len c) ∧ Sl N p bd.len (Sts.At w N bd)) ∧
    (∃ p c, w.cell? ⟨b, o + 15, none⟩ = some (.slice p el.len c) ∧ Sl N p el.len (Sts.At w N el))
def Sts.At (w : World) (N : Nat) : Sts → Nat → Nat → Prop
  | .nil, _, _ => True
  | .cons x r, b, o => St.At w N x b o ∧ Sts.At w N r b (o + 16)
end
def Sts.In (w : World) (N : Nat) (l : Sts) (p : Option Addr) : Prop := Sl N p l.len (Sts.At w N l)
theorem StrAt.later {w w' : World} {N : Nat} (hw : Below N w w') (x : List UInt8) (b o : Nat) (hb : b < N) (h : StrAt w x b o) : StrAt w' x b o := (hw.cell hb).trans h
theorem Rgn.At.later {w w' : World} {N : Nat} (hw : Below N w w') (x : Rgn) (b o : Nat) (hb : b < N) (h : x.At w b o) : x.At w' b o :=
  ⟨(hw.cell hb).trans h.1, (hw.cell hb).trans h.2.1, (hw.cell hb).trans h.2.2.1, (hw.cell hb).trans h.2.2.2⟩
theorem Vr.At.later {w w' : World} {N : Nat} (hw : Below N w w') (x : Vr) (b o : Nat) (hb : b < N) (h : x.At w b o) : x.At w' b o :=
  ⟨(hw.cell hb).trans h.1, (hw.cell hb).trans h.2.1, (hw.cell hb).trans h.2.2.1, (hw.cell hb).trans h.2.2.2⟩
mutual
theorem St.At.later {w w' : World} {N M : Nat} (hw : Below N w w') (hM : N ≤ M) : ∀ (x : St) (b o : Nat), b < N → St.At w N x b o → St.At w' M x b o
  | .mk kd nm ns e a as' lo hi bd el, b, o, hb, h => by
    obtain ⟨⟨h0, h1, h2, h3, h4, h5⟩, ⟨p1, c1, g1, s1⟩, he, ha, ⟨p2, c2, g2, s2⟩, ⟨p3, c3, g3, s3⟩, ⟨p4, c4, g4, s4⟩⟩ := h
    exact ⟨⟨(hw.cell hb).trans h0, (hw.cell hb).trans h1, (hw.cell hb).trans h2, (hw.cell hb).trans h3, h4, h5⟩,
      ⟨p1, c1, (hw.cell hb).trans g1, s1.1, s1.2.imp hM (StrAt.later hw)⟩, Ex.At.later hw hM e b _ hb he, Ex.At.later hw hM a b _ hb ha,
      ⟨p2, c2, (hw.cell hb).trans g2, s2.later hw hM⟩,
      ⟨p3, c3, (hw.cell hb).trans g3, s3.imp hM fun b' o' hb' ha' => Sts.At.later hw hM bd b' o' hb' ha'⟩,
      ⟨p4, c4, (hw.cell hb).trans g4, s4.imp hM fun b' o' hb' ha' => Sts.At.later hw hM el b' o' hb' ha'⟩⟩
theorem Sts.At.later {w w' : World} {N M : Nat} (hw : Below N w w') (hM : N ≤ M) : ∀ (l : Sts) (b o : Nat), b < N → Sts.At w N l b o → Sts.At w' M l b o
  | .nil, _, _, _, _ => trivial
  | .cons x r, b, o, hb, h => ⟨St.At.later hw hM x b o hb h.1, Sts.At.later hw hM r b (o + 16) hb h.2⟩
end
theorem Sts.In.later {w w' : World} {N M : Nat} {l : Sts} {p : Option Addr} (h : l.In w N p) (hw : Below N w w') (hM : N ≤ M) : l.In w' M p :=
  Sl.imp h hM fun b o hb ha => Sts.At.later hw hM l b o hb ha

/-- where a statement's slices lie -/
structure StP where
  (pn pe pa pg pb pl : Option Addr) (cn ce ca cg cb cl : Nat)
def St.Ok (w : World) (N : Nat) (x : St) (s : StP) : Prop :=
  (x.names.length ≤ s.cn ∧ RowIn N (StrAt w) 1 x.names s.pn) ∧ x.e.Ok w N s.pe ∧ x.a.Ok w N s.pa ∧ x.args.In w N s.pg ∧ x.body.In w N s.pb ∧ x.els.In w N s.pl ∧ x.low < 18446744073709551616 ∧ x.high < 18446744073709551616
theorem St.Ok.later {w w' : World} {N M : Nat} {x : St} {s : StP} (h : x.Ok w N s) (hw : Below N w w') (hM : N ≤ M) : x.Ok w' M s :=
  ⟨⟨h.1.1, h.1.2.imp hM (StrAt.later hw)⟩, h.2.1.later hw hM, h.2.2.1.later hw hM, h.2.2.2.1.later hw hM, h.2.2.2.2.1.later hw hM, h.2.2.2.2.2.1.later hw hM, h.2.2.2.2.2.2⟩
/-- its cells -/
def St.cells (x : St) (s : StP) : Array Value :=
  #[.int .i64 x.kind, .string (str x.name), .slice s.pn x.names.length s.cn, .int .i64 x.e.op, .int .u64 (x.e.word : Int), .string (str x.e.name), .slice s.pe x.e.args.len s.ce, .int .i64 x.a.op, .int .u64 (x.a.word : Int), .string (str x.a.name), .slice s.pa x.a.args.len s.ca,
    .slice s.pg x.args.len s.cg, .int .u64 (x.low : Int), .int .u64 (x.high : Int), .slice s.pb x.body.len s.cb, .slice s.pl x.els.len s.cl]
/-- a statement as a value -/
def St.val (x : St) (s : StP) : Value := .agg (x.cells s)
theorem Ex.At.open' {w : World} {N : Nat} {x : Ex} {b o : Nat} (h : x.At w N b o) : ∃ p c, w.cell? ⟨b, o, none⟩ = some (.int .i64 x.op) ∧ w.cell? ⟨b, o + 1, none⟩ = some (.int .u64 (x.word : Int)) ∧ w.cell? ⟨b, o + 2, none⟩ = some (.string (str x.name)) ∧ w.cell? ⟨b, o + 3, none⟩ = some (.slice p x.args.len c) ∧ x.Ok w N p := by
  obtain ⟨op, wd, nm, ar⟩ := x
  obtain ⟨⟨h0, h1, h2, h3⟩, ⟨p, c, h4, s4⟩⟩ := h
  exact ⟨p, c, h0, h1, h2, h4, s4, h3⟩
/-- a statement that lies in a row: its cells, and that it is one -/
theorem St.At.open {w : World} {N : Nat} {x : St} {b o : Nat} (h : x.At w N b o) : ∃ s : StP, (∀ j v, (x.cells s)[j]? = some v → w.cell? ⟨b, o + j, none⟩ = some v) ∧ x.Ok w N s := by
  obtain ⟨kd, nm, ns, e, a, as', lo, hi, bd, el⟩ := x
  obtain ⟨⟨h0, h1, h2, h3, h4, h5⟩, ⟨p1, c1, g1, s1⟩, he, ha, ⟨p2, c2, g2, s2⟩, ⟨p3, c3, g3, s3⟩, ⟨p4, c4, g4, s4⟩⟩ := h
  obtain ⟨pe, ce, e0, e1, e2, e3, oke⟩ := he.open'
  obtain ⟨pa, ca, a0, a1, a2, a3, oka⟩ := ha.open'
  refine ⟨⟨p1, pe, pa, p2, p3, p4, c1, ce, ca, c2, c3, c4⟩, ?_, s1, oke, oka, s2, s3, s4, h4, h5⟩
  intro j v hv
  rcases j with _ | _ | _ | _ | _ | _ | _ | _ | _ | _ | _ | _ | _ | _ | _ | _ | j
  all_goals first | (cases hv; assumption) | (simp [St.cells] at hv)

structure Fnc where
  (name : List UInt8) (params vars : List Vr) (rets : List (List UInt8)) (body : Sts)
def Fnc.At (w : World) (N : Nat) (x : Fnc) (b o : Nat) : Prop :=
  w.cell? ⟨b, o, none⟩ = some (.string (str x.name)) ∧
  (∃ p c, w.cell? ⟨b, o + 1, none⟩ = some (.slice p x.params.length c) ∧ RowIn N (Vr.At w) 4 x.params p) ∧
  (∃ p c, w.cell? ⟨b, o + 2, none⟩ = some (.slice p x.vars.length c) ∧ RowIn N (Vr.At w) 4 x.vars p) ∧
  (∃ p c, w.cell? ⟨b, o + 3, none⟩ = some (.slice p x.rets.length c) ∧ (x.rets.length ≤ c ∧ RowIn N (StrAt w) 1 x.rets p)) ∧
  (∃ p c, w.cell? ⟨b, o + 4, none⟩ = some (.slice p x.body.len c) ∧ x.body.In w N p)
structure FncP where
  (pp pv pr pb : Option Addr) (cp cv cr cb : Nat)
def Fnc.Ok (w : World) (N : Nat) (x : Fnc) (s : FncP) : Prop :=
  RowIn N (Vr.At w) 4 x.params s.pp ∧ RowIn N (Vr.At w) 4 x.vars s.pv ∧ (x.rets.length ≤ s.cr ∧ RowIn N (StrAt w) 1 x.rets s.pr) ∧ x.body.In w N s.pb
theorem Fnc.Ok.later {w w' : World} {N M : Nat} {x : Fnc} {s : FncP} (h : x.Ok w N s) (hw : Below N w w') (hM : N ≤ M) : x.Ok w' M s :=
  ⟨h.1.imp hM (Vr.At.later hw), h.2.1.imp hM (Vr.At.later hw), ⟨h.2.2.1.1, h.2.2.1.2.imp hM (StrAt.later hw)⟩, h.2.2.2.later hw hM⟩
def Fnc.cells (x : Fnc) (s : FncP) : Array Value :=
  #[.string (str x.name), .slice s.pp x.params.length s.cp, .slice s.pv x.vars.length s.cv, .slice s.pr x.rets.length s.cr, .slice s.pb x.body.len s.cb]
def Fnc.val (x : Fnc) (s : FncP) : Value := .agg (x.cells s)
theorem Fnc.At.later {w w' : World} {N M : Nat} (hw : Below N w w') (hM : N ≤ M) (x : Fnc) (b o : Nat) (hb : b < N) (h : x.At w N b o) : x.At w' M b o := by
  obtain ⟨h0, ⟨p1, c1, g1, s1⟩, ⟨p2, c2, g2, s2⟩, ⟨p3, c3, g3, s3⟩, ⟨p4, c4, g4, s4⟩⟩ := h
  exact ⟨(hw.cell hb).trans h0, ⟨p1, c1, (hw.cell hb).trans g1, s1.imp hM (Vr.At.later hw)⟩, ⟨p2, c2, (hw.cell hb).trans g2, s2.imp hM (Vr.At.later hw)⟩, ⟨p3, c3, (hw.cell hb).trans g3, s3.1, s3.2.imp hM (StrAt.later hw)⟩, ⟨p4, c4, (hw.cell hb).trans g4, s4.later hw hM⟩⟩
theorem Fnc.At.open {w : World} {N : Nat} {x : Fnc} {b o : Nat} (h : x.At w N b o) : ∃ s : FncP, (∀ j v, (x.cells s)[j]? = some v → w.cell? ⟨b, o + j, none⟩ = some v) ∧ x.Ok w N s := by
  obtain ⟨h0, ⟨p1, c1, g1, s1⟩, ⟨p2, c2, g2, s2⟩, ⟨p3, c3, g3, s3⟩, ⟨p4, c4, g4, s4⟩⟩ := h
  refine ⟨⟨p1, p2, p3, p4, c1, c2, c3, c4⟩, ?_, s1, s2, s3, s4⟩
  intro j v hv
  rcases j with _ | _ | _ | _ | _ | j
  all_goals first | (cases hv; assumption) | (simp [Fnc.cells] at hv)
structure Prg where
  (regs : List Rgn) (fns : List Fnc)
def Prg.Ok (w : World) (N : Nat) (x : Prg) (p q : Option Addr) : Prop := RowIn N (Rgn.At w) 4 x.regs p ∧ RowIn N (Fnc.At w N) 5 x.fns q
theorem Prg.Ok.later {w w' : World} {N M : Nat} {x : Prg} {p q : Option Addr} (h : x.Ok w N p q) (hw : Below N w w') (hM : N ≤ M) : x.Ok w' M p q :=
  ⟨h.1.imp hM (Rgn.At.later hw), h.2.imp hM (Fnc.At.later hw hM)⟩
def Prg.val (x : Prg) (p q : Option Addr) (c d : Nat) : Value := .agg #[.slice p x.regs.length c, .slice q x.fns.length d]
end Go.Proofs.YtchbnkepmeelkaaGreatDoor
/- Tokens read as expressions, statements and programs: plain functions. -/
namespace Go.Proofs.YtchbnkepmeelkaaGreatDoor

/-- nothing, as an expression -/
def Z0 : Ex := .mk 0 0 [] .nil
/-- a token, and where it stands -/
structure Tok where
  kind : Nat
  text : List UInt8
  word : Nat
  line : Nat
  col : Nat
/-- what stands behind the last token -/
def tok0 : Tok := ⟨0, [], 0, 0, 0⟩
def hdT (l : List Tok) : Tok := l.headD tok0
/-- what is read, and what is left; or what is wrong, and at which token -/
inductive Res (α : Type) where
  | ok (a : α) (r : List Tok)
  | no (e : Nat) (t : Tok)
def Res.bind {α β : Type} (x : Res α) (f : α → List Tok → Res β) : Res β :=
  match x with
  | .ok a r => f a r
  | .no e t => .no e t
theorem Res.bind_ok {α β : Type} (a : α) (r : List Tok) (f : α → List Tok → Res β) : (Res.ok a r).bind f = f a r := rfl
def wantP (s : List UInt8) (l : List Tok) : Res Unit := if (hdT l).text = s then .ok () l.tail else .no 15 (hdT l)
def nameP (l : List Tok) : Res (List UInt8) := if (hdT l).kind = 1 then .ok (hdT l).text l.tail else .no 15 (hdT l)
def numP (l : List Tok) : Res Nat := if (hdT l).kind = 3 then .ok (hdT l).word l.tail else .no 15 (hdT l)
def sizeP (l : List Tok) : Res Nat := if 2147483647 < (hdT l).word then .no 15 (hdT l) else numP l
/-- the operations' signs -/
def signsL : List (Int × List UInt8) := [(6, [43]), (7, [45]), (8, [42]), (9, [38]), (10, [124]), (11, [94]), (12, [60, 60]), (13, [62, 62]), (14, [62, 62, 62]), (15, [60, 60, 60]), (16, [62, 62, 62, 62]), (17, [61, 61]), (18, [33, 61]), (19, [60]), (20, [60, 61])]
def opOf (s : List UInt8) : Option Int := (signsL.find? (fun x => decide (x.2 = s))).map (·.1)
def signP (l : List Tok) : Res Int := match opOf (hdT l).text with
  | some o => .ok o l.tail
  | none => .no 15 (hdT l)
def beginsE (t : Tok) : Bool := decide (t.kind = 1) || decide (t.kind = 3) || decide (t.text = [126]) || decide (t.text = [45]) || decide (t.text = [40]) || decide (t.text = [112, 105, 99, 107])
/-- an expression that may be n deep -/
def exprP : Nat → List Tok → Res Ex
  | 0, l => if beginsE (hdT l) then .no 12 (hdT l) else .no 15 (hdT l)
  | n + 1, l =>
    if beginsE (hdT l) = false then .no 15 (hdT l)
    else if (hdT l).kind = 3 then .ok (.mk 1 (hdT l).word [] .nil) l.tail
    else if (hdT l).kind = 1 ∧ (hdT l.tail).text = [91] then
      (exprP n l.tail.tail).bind fun e r => (wantP [93] r).bind fun _ r => .ok (.mk 3 0 (hdT l).text (.cons e .nil)) r
    else if (hdT l).text = [126] then (exprP n l.tail).bind fun e r => .ok (.mk 4 0 [] (.cons e .nil)) r
    else if (hdT l).text = [45] then (exprP n l.tail).bind fun e r => .ok (.mk 5 0 [] (.cons e .nil)) r
    else if (hdT l).text = [40] then
      (exprP n l.tail).bind fun a r => (signP r).bind fun o r => (exprP n r).bind fun b r => (wantP [41] r).bind fun _ r => .ok (.mk o 0 [] (.cons a (.cons b .nil))) r
    else if (hdT l).text = [112, 105, 99, 107] then
      (wantP [40] l.tail).bind fun _ r => (exprP n r).bind fun a r => (wantP [44] r).bind fun _ r => (exprP n r).bind fun b r => (wantP [44] r).bind fun _ r => (exprP n r).bind fun c r => (wantP [41] r).bind fun _ r => .ok (.mk 21 0 [] (.cons a (.cons b (.cons c .nil)))) r
    else (nameP l).bind fun s r => .ok (.mk 2 0 s .nil) r

/-- things until one stands at a token of this text -/
def manyP {α : Type} (one : List Tok → Res α) (s : List UInt8) : Nat → List Tok → Res (List α)
  | 0, l => .no 15 (hdT l)
  | f + 1, l => if (hdT l).text = s then .ok [] l else (one l).bind fun a r => (manyP one s f r).bind fun as' r => .ok (a :: as') r
/-- further things, each behind a comma -/
def tailP {α : Type} (one : List Tok → Res α) : Nat → List Tok → Res (List α)
  | 0, l => .no 15 (hdT l)
  | f + 1, l => if (hdT l).text = [44] then (one l.tail).bind fun a r => (tailP one f r).bind fun as' r => .ok (a :: as') r else .ok [] l
def listP {α : Type} (one : List Tok → Res α) (l : List Tok) : Res (List α) := (one l).bind fun a r => (tailP one (r.length + 1) r).bind fun as' r => .ok (a :: as') r
def parenP {α : Type} (one : List Tok → Res α) (l : List Tok) : Res (List α) :=
  (wantP [40] l).bind fun _ r => (if (hdT r).text = [41] then .ok [] r else listP one r).bind fun as' r => (wantP [41] r).bind fun _ r => .ok as' r
def exsOf : List Ex → Exs
  | [] => .nil
  | x :: r => .cons x (exsOf r)
def stsOf : List St → Sts
  | [] => .nil
  | x :: r => .cons x (stsOf r)
def wIf : List UInt8 := [105, 102]
def wWhile : List UInt8 := [119, 104, 105, 108, 101]
def wFor : List UInt8 := [102, 111, 114]
def wElse : List UInt8 := [101, 108, 115, 101]
def beginsS (t : Tok) : Bool := decide (t.kind = 1) || decide (t.text = wIf) || decide (t.text = wWhile) || decide (t.text = wFor)
def bodyP (one : List Tok → Res St) (l : List Tok) : Res Sts := (manyP one [125] (l.length + 1) l).bind fun ss r => (wantP [125] r).bind fun _ r => .ok (stsOf ss) r
def blockP (one : List Tok → Res St) (l : List Tok) : Res Sts := (wantP [123] l).bind fun _ r => bodyP one r
def callP (n : Nat) (ns : List (List UInt8)) (l : List Tok) : Res St :=
  (nameP l).bind fun nm r => (parenP (exprP n) r).bind fun g r => (wantP [59] r).bind fun _ r => .ok (.mk 6 nm ns Z0 Z0 (exsOf g) 0 0 .nil .nil) r
def setP (n : Nat) (l : List Tok) : Res St :=
  (listP nameP l).bind fun ns r => (wantP [61] r).bind fun _ r =>
    if 1 < ns.length ∨ ((hdT r).kind = 1 ∧ (hdT r.tail).text = [40]) then callP n ns r
    else (exprP n r).bind fun e r => (wantP [59] r).bind fun _ r => .ok (.mk 1 (ns.headD []) [] e Z0 .nil 0 0 .nil .nil) r
def putP (n : Nat) (l : List Tok) : Res St :=
  (nameP l).bind fun nm r => (wantP [91] r).bind fun _ r => (exprP n r).bind fun a r => (wantP [93] r).bind fun _ r => (wantP [61] r).bind fun _ r => (exprP n r).bind fun e r => (wantP [59] r).bind fun _ r =>
    .ok (.mk 2 nm [] e a .nil 0 0 .nil .nil) r
/-- a statement that may be n deep -/
def stmtP : Nat → List Tok → Res St
  | 0, l => if beginsS (hdT l) then .no 12 (hdT l) else .no 15 (hdT l)
  | n + 1, l =>
    if beginsS (hdT l) = false then .no 15 (hdT l)
    else if (hdT l).text = wIf then
      (exprP n l.tail).bind fun e r => (blockP (stmtP n) r).bind fun b r =>
        if (hdT r).text = wElse then (blockP (stmtP n) r.tail).bind fun x r => .ok (.mk 3 [] [] e Z0 .nil 0 0 b x) r
        else .ok (.mk 3 [] [] e Z0 .nil 0 0 b .nil) r
    else if (hdT l).text = wWhile then (exprP n l.tail).bind fun e r => (blockP (stmtP n) r).bind fun b r => .ok (.mk 4 [] [] e Z0 .nil 0 0 b .nil) r
    else if (hdT l).text = wFor then
      (nameP l.tail).bind fun nm r => (numP r).bind fun a r => (numP r).bind fun b r => (blockP (stmtP n) r).bind fun x r => .ok (.mk 5 nm [] Z0 Z0 .nil a b x .nil) r
    else if (hdT l).kind = 1 ∧ (hdT l.tail).text = [91] then putP n l
    else if (hdT l).kind = 1 ∧ (hdT l.tail).text = [40] then callP n [] l
    else setP n l
def wRegion : List UInt8 := [114, 101, 103, 105, 111, 110]
def wSecret : List UInt8 := [115, 101, 99, 114, 101, 116]
def wFn : List UInt8 := [102, 110]
def wVar : List UInt8 := [118, 97, 114]
def wArray : List UInt8 := [97, 114, 114, 97, 121]
def wStack : List UInt8 := [115, 116, 97, 99, 107]
/-- is a token there, and what is left -/
def takeP (s : List UInt8) (l : List Tok) : Bool × List Tok := if (hdT l).text = s then (true, l.tail) else (false, l)
def regionP (l : List Tok) : Res Rgn :=
  (wantP wRegion l).bind fun _ r => (nameP r).bind fun nm r => (sizeP r).bind fun a r => (sizeP r).bind fun z r => (wantP [59] (takeP wSecret r).2).bind fun _ r' => .ok ⟨nm, a, z, (takeP wSecret r).1⟩ r'
def paramP (l : List Tok) : Res Vr := (nameP l).bind fun nm r => .ok ⟨nm, 1, 0, (takeP wSecret r).1⟩ (takeP wSecret r).2
def varOfP (k : Int) (l : List Tok) : Res Vr :=
  (nameP l).bind fun nm r => if k = 1 then (wantP [59] r).bind fun _ r => .ok ⟨nm, 1, 0, false⟩ r
    else (sizeP r).bind fun z r => (wantP [59] (takeP wSecret r).2).bind fun _ r' => .ok ⟨nm, k, z, (takeP wSecret r).1⟩ r'
def isVar (t : Tok) : Bool := decide (t.text = wVar) || decide (t.text = wArray) || decide (t.text = wStack)
def variableP (l : List Tok) : Res Vr :=
  if (hdT l).text = wVar then varOfP 1 l.tail else if (hdT l).text = wArray then varOfP 2 l.tail else varOfP 3 l.tail
/-- things as long as one begins -/
def whileP {α : Type} (one : List Tok → Res α) (b : Tok → Bool) : Nat → List Tok → Res (List α)
  | 0, l => .no 15 (hdT l)
  | f + 1, l => if b (hdT l) then (one l).bind fun a r => (whileP one b f r).bind fun as' r => .ok (a :: as') r else .ok [] l
def functionP (l : List Tok) : Res Fnc :=
  (wantP wFn l).bind fun _ r => (nameP r).bind fun nm r => (parenP paramP r).bind fun ps r =>
    (if (hdT r).text = [45, 62] then listP nameP r.tail else .ok [] r).bind fun rt r => (wantP [123] r).bind fun _ r =>
      (whileP variableP isVar (r.length + 1) r).bind fun vs r => (bodyP (stmtP 64) r).bind fun b r => .ok ⟨nm, ps, vs, rt, b⟩ r
def programP (l : List Tok) : Res Prg :=
  (whileP regionP (fun t => decide (t.text = wRegion)) (l.length + 1) l).bind fun rs r => (manyP functionP [] (r.length + 1) r).bind fun fs r => .ok ⟨rs, fs⟩ r
def onlyExprP (l : List Tok) : Res Ex := (exprP 64 l).bind fun e r => (wantP [] r).bind fun _ _ => .ok e r
def onlyStmtsP (l : List Tok) : Res Sts := (manyP (stmtP 64) [] (l.length + 1) l).bind fun ss r => .ok (stsOf ss) r

end Go.Proofs.YtchbnkepmeelkaaGreatDoor
