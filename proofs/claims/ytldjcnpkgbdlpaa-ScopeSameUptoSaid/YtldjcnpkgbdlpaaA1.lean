/- Expressions as they lie in memory. -/
import Derived.Test.YtldjcnpkgbdlpaaProg
import Derived.WalkKit
import Derived.BigQuiet
import Derived.Deep.QuietTactic
import Derived.Lib.Hide
import Derived.Outline
namespace Go.Proofs.Ytldjcnpkgbdlpaa
open Go.RowKit

mutual
inductive Ex where
  | mk (op : Int) (word : Nat) (name : List UInt8) (args : Exs)
inductive Exs where
  | nil
  | cons (x : Ex) (rest : Exs)
end
def Exs.len : Exs → Nat
  | .nil => 0
  | .cons _ r => r.len + 1
mutual
def Ex.size : Ex → Nat
  | .mk _ _ _ a => a.size + 1
def Exs.size : Exs → Nat
  | .nil => 0
  | .cons x r => x.size + r.size + 1
end
def Ex.op : Ex → Int | .mk o _ _ _ => o
def Ex.word : Ex → Nat | .mk _ n _ _ => n
def Ex.name : Ex → List UInt8 | .mk _ _ n _ => n
def Ex.args : Ex → Exs | .mk _ _ _ a => a

/-- a text out of its bytes -/
def str (l : List UInt8) : ByteArray := ⟨l.toArray⟩
theorem str_data (l : List UInt8) : (str l).data.toList = l := rfl
theorem bytes_ext {a b : ByteArray} (h : a.data.toList = b.data.toList) : a = b := by
  obtain ⟨⟨x⟩⟩ := a; obtain ⟨⟨y⟩⟩ := b; cases h; rfl
theorem str_eta (s : ByteArray) : str s.data.toList = s := bytes_ext rfl
theorem size_len (s : ByteArray) : s.size = s.data.toList.length := by rw [Array.length_toList]; rfl
theorem size_str (l : List UInt8) : (str l).size = l.length := by rw [size_len, str_data]
/-- a slice's place: nothing is asked of an empty one -/
def Sl (N : Nat) (p : Option Addr) (n : Nat) (A : Nat → Nat → Prop) : Prop :=
  n ≤ 140737488355328 ∧ (n = 0 ∨ ∃ b o, p = some ⟨b, o, none⟩ ∧ b < N ∧ A b o)
mutual
def Ex.At (w : World) (N : Nat) : Ex → Nat → Nat → Prop
  | .mk op x nm as', b, o =>
    (w.cell? ⟨b, o, none⟩ = some (.int .i64 op) ∧ w.cell? ⟨b, o + 1, none⟩ = some (.int .u64 (x : Int)) ∧ w.cell? ⟨b, o + 2, none⟩ = some (.string (str nm)) ∧ x < 18446744073709551616) ∧
    (∃ p c, w.cell? ⟨b, o + 3, none⟩ = some (.slice p as'.len c) ∧ Sl N p as'.len (Exs.At w N as'))
def Exs.At (w : World) (N : Nat) : Exs → Nat → Nat → Prop
  | .nil, _, _ => True
  | .cons x r, b, o => Ex.At w N x b o ∧ Exs.At w N r b (o + 4)
end
def Exs.In (w : World) (N : Nat) (l : Exs) (p : Option Addr) : Prop := Sl N p l.len (Exs.At w N l)
theorem Sl.imp {N M : Nat} {p : Option Addr} {n : Nat} {A B : Nat → Nat → Prop} (h : Sl N p n A) (hN : N ≤ M) (hAB : ∀ b o, b < N → A b o → B b o) : Sl M p n B := by
  rcases h with ⟨hm, h | ⟨b, o, hp, hb, ha⟩⟩
  · exact ⟨hm, .inl h⟩
  · exact ⟨hm, .inr ⟨b, o, hp, Nat.lt_of_lt_of_le hb hN, hAB b o hb ha⟩⟩
mutual
theorem Ex.At.later {w w' : World} {N M : Nat} (hw : Below N w w') (hM : N ≤ M) : ∀ (x : Ex) (b o : Nat), b < N → Ex.At w N x b o → Ex.At w' M x b o
  | .mk op x nm as', b, o, hb, h => by
    obtain ⟨⟨h0, h1, h2, h3⟩, ⟨p, c, h4, s4⟩⟩ := h
    exact ⟨⟨(hw.cell hb).trans h0, (hw.cell hb).trans h1, (hw.cell hb).trans h2, h3⟩, ⟨p, c, (hw.cell hb).trans h4, s4.imp hM fun b' o' hb' ha => Exs.At.later hw hM as' b' o' hb' ha⟩⟩
theorem Exs.At.later {w w' : World} {N M : Nat} (hw : Below N w w') (hM : N ≤ M) : ∀ (l : Exs) (b o : Nat), b < N → Exs.At w N l b o → Exs.At w' M l b o
  | .nil, _, _, _, _ => trivial
  | .cons x r, b, o, hb, h => ⟨Ex.At.later hw hM x b o hb h.1, Exs.At.later hw hM r b (o + 4) hb h.2⟩
end
theorem Exs.In.later {w w' : World} {N M : Nat} {l : Exs} {p : Option Addr} (h : l.In w N p) (hw : Below N w w') (hM : N ≤ M) : l.In w' M p :=
  Sl.imp h hM fun b o hb ha => Exs.At.later hw hM l b o hb ha
theorem Exs.In.nil (w : World) (N : Nat) (p : Option Addr) : Exs.nil.In w N p := ⟨Nat.zero_le _, .inl rfl⟩
/-- an expression as a value -/
def Ex.val (x : Ex) (p : Option Addr) (c : Nat) : Value := .agg #[.int .i64 x.op, .int .u64 (x.word : Int), .string (str x.name), .slice p x.args.len c]
/-- it is one: its arguments lie there -/
def Ex.Ok (w : World) (N : Nat) (x : Ex) (p : Option Addr) : Prop := x.args.In w N p ∧ x.word < 18446744073709551616
theorem Ex.Ok.later {w w' : World} {N M : Nat} {x : Ex} {p : Option Addr} (h : x.Ok w N p) (hw : Below N w w') (hM : N ≤ M) : x.Ok w' M p := ⟨h.1.later hw hM, h.2⟩
theorem ret_bool {a b : Bool} (h : a = b) : Ending.returned (.bool a) = .returned (.bool b) := by rw [h]
theorem ret_int {k : IntKind} {a b : Int} (h : a = b) : Ending.returned (.int k a) = .returned (.int k b) := by rw [h]
theorem below_drewN {B : Nat} {a w : World} (h : Below B a w) (n : Nat) : Below B a (w.drewN n) := by
  induction n with
  | zero => exact h
  | succ n ih => exact ih.drew
end Go.Proofs.Ytldjcnpkgbdlpaa
