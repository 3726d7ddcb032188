/- Leakage as it lies in memory: lists of nodes, lists of lists. -/
import Derived.Test.YtdigkdfkaikagaaChecked
import Derived.WalkKit
import Derived.ProofKit
import Derived.OpenShut
import Derived.Lib.Hide
import Derived.WalkSmall
namespace Go.Proofs.Ytdigkdfkaikagaa
open Go.RowKit

mutual
inductive Lf where
  | nil
  | node (k : Int) (is : List Int) (t : Bool) (subs : Ls) (rest : Lf)
inductive Ls where
  | nil
  | sub (l : Lf) (rest : Ls)
end

def Lf.len : Lf → Nat
  | .nil => 0
  | .node _ _ _ _ r => r.len + 1
def Ls.len : Ls → Nat
  | .nil => 0
  | .sub _ r => r.len + 1
mutual
def Lf.size : Lf → Nat
  | .nil => 0
  | .node _ _ _ s r => s.size + r.size + 1
def Ls.size : Ls → Nat
  | .nil => 0
  | .sub l r => l.size + r.size + 1
end

/-- words at cells, one behind the other -/
def Ints (w : World) : List Int → Nat → Nat → Prop
  | [], _, _ => True
  | x :: xs, b, o => w.cell? ⟨b, o, none⟩ = some (.int .u64 x) ∧ Ints w xs b (o + 1)

/-- a slice's place: nothing is asked of an empty one -/
def Sl (N : Nat) (p : Option Addr) (n : Nat) (A : Nat → Nat → Prop) : Prop :=
  n ≤ 140737488355328 ∧ (n = 0 ∨ ∃ b o, p = some ⟨b, o, none⟩ ∧ b < N ∧ A b o)

mutual
def Lf.At (w : World) (N : Nat) : Lf → Nat → Nat → Prop
  | .nil, _, _ => True
  | .node k is t subs rest, b, o =>
    w.cell? ⟨b, o, none⟩ = some (.int .i64 k) ∧
    (∃ p c, w.cell? ⟨b, o + 1, none⟩ = some (.slice p is.length c) ∧ Sl N p is.length (Ints w is)) ∧
    w.cell? ⟨b, o + 2, none⟩ = some (.bool t) ∧
    (∃ p c, w.cell? ⟨b, o + 3, none⟩ = some (.slice p subs.len c) ∧ Sl N p subs.len (Ls.At w N subs)) ∧
    Lf.At w N rest b (o + 4)
def Ls.At (w : World) (N : Nat) : Ls → Nat → Nat → Prop
  | .nil, _, _ => True
  | .sub l rest, b, o =>
    (∃ p c, w.cell? ⟨b, o, none⟩ = some (.slice p l.len c) ∧ Sl N p l.len (Lf.At w N l)) ∧
    Ls.At w N rest b (o + 1)
end

/-- a list of nodes behind a slice's place -/
def Lf.In (w : World) (N : Nat) (l : Lf) (p : Option Addr) : Prop := Sl N p l.len (Lf.At w N l)
def Ls.In (w : World) (N : Nat) (l : Ls) (p : Option Addr) : Prop := Sl N p l.len (Ls.At w N l)

theorem Sl.imp {N M : Nat} {p : Option Addr} {n : Nat} {A B : Nat → Nat → Prop} (h : Sl N p n A) (hN : N ≤ M) (hAB : ∀ b o, b < N → A b o → B b o) : Sl M p n B := by
  rcases h with ⟨hm, h | ⟨b, o, hp, hb, ha⟩⟩
  · exact ⟨hm, .inl h⟩
  · exact ⟨hm, .inr ⟨b, o, hp, Nat.lt_of_lt_of_le hb hN, hAB b o hb ha⟩⟩

theorem Ints.later {w w' : World} {N : Nat} (hw : Below N w w') : ∀ (xs : List Int) (b o : Nat), b < N → Ints w xs b o → Ints w' xs b o
  | [], _, _, _, _ => trivial
  | _ :: xs, b, o, hb, h => ⟨(hw.cell hb).trans h.1, Ints.later hw xs b (o + 1) hb h.2⟩

mutual
theorem Lf.At.later {w w' : World} {N M : Nat} (hw : Below N w w') (hM : N ≤ M) : ∀ (l : Lf) (b o : Nat), b < N → Lf.At w N l b o → Lf.At w' M l b o
  | .nil, _, _, _, _ => trivial
  | .node k is t subs rest, b, o, hb, h => by
    obtain ⟨h0, ⟨p, c, h1, s1⟩, h2, ⟨q, d, h3, s3⟩, h4⟩ := h
    exact ⟨(hw.cell hb).trans h0, ⟨p, c, (hw.cell hb).trans h1, s1.imp hM fun b' o' hb' ha => Ints.later hw is b' o' hb' ha⟩, (hw.cell hb).trans h2,
      ⟨q, d, (hw.cell hb).trans h3, s3.imp hM fun b' o' hb' ha => Ls.At.later hw hM subs b' o' hb' ha⟩, Lf.At.later hw hM rest b (o + 4) hb h4⟩
theorem Ls.At.later {w w' : World} {N M : Nat} (hw : Below N w w') (hM : N ≤ M) : ∀ (l : Ls) (b o : Nat), b < N → Ls.At w N l b o → Ls.At w' M l b o
  | .nil, _, _, _, _ => trivial
  | .sub l rest, b, o, hb, h => by
    obtain ⟨⟨p, c, h1, s1⟩, h4⟩ := h
    exact ⟨⟨p, c, (hw.cell hb).trans h1, s1.imp hM fun b' o' hb' ha => Lf.At.later hw hM l b' o' hb' ha⟩, Ls.At.later hw hM rest b (o + 1) hb h4⟩
end

theorem Lf.In.later {w w' : World} {N M : Nat} {l : Lf} {p : Option Addr} (h : l.In w N p) (hw : Below N w w') (hM : N ≤ M) : l.In w' M p :=
  Sl.imp h hM fun b o hb ha => Lf.At.later hw hM l b o hb ha
theorem Ls.In.later {w w' : World} {N M : Nat} {l : Ls} {p : Option Addr} (h : l.In w N p) (hw : Below N w w') (hM : N ≤ M) : l.In w' M p :=
  Sl.imp h hM fun b o hb ha => Ls.At.later hw hM l b o hb ha
theorem Lf.In.nil (w : World) (N : Nat) (p : Option Addr) : Lf.nil.In w N p := ⟨Nat.zero_le _, .inl rfl⟩
theorem Ls.In.nil (w : World) (N : Nat) (p : Option Addr) : Ls.nil.In w N p := ⟨Nat.zero_le _, .inl rfl⟩
theorem Ints.drop {w : World} : ∀ (ds rs : List Int) (b o : Nat), Ints w (ds ++ rs) b o → Ints w rs b (o + ds.length)
  | [], _, _, _, h => h
  | _ :: ds, rs, b, o, h => by
    have := Ints.drop ds rs b (o + 1) h.2
    rw [List.length_cons, show o + (ds.length + 1) = o + 1 + ds.length by omega]; exact this
theorem own_form {w : World} {base size n : Nat} {e : TypeId} {v : Value} {xs : List Value} (h : w.ownsRow base e size v n xs) (hn : 0 < n) : ∃ g cap, v = .slice (some ⟨g, 0, none⟩) n cap := by
  rcases h.2 with ⟨_, h0⟩ | ⟨g, cap, cur, hv, _⟩
  · omega
  · exact ⟨g, cap, hv⟩
theorem ret_bool {a b : Bool} (h : a = b) : Ending.returned (.bool a) = .returned (.bool b) := by rw [h]
theorem ret_int {k : IntKind} {a b : Int} (h : a = b) : Ending.returned (.int k a) = .returned (.int k b) := by rw [h]
theorem beq_cast (n : Nat) (m : Int) : ((n : Int) == m) = decide ((n : Int) = m) := by rw [Bool.eq_iff_iff]; simp
theorem bool_of {a b : Bool} (h : a = true ↔ b = true) : a = b := Bool.eq_iff_iff.2 h
end Go.Proofs.Ytdigkdfkaikagaa
