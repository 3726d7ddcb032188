/- Terms as they lie in memory. -/
import Derived.Test.YtdigkdfkaikagaaL1
namespace Go.Proofs.Ytdigkdfkaikagaa
open Go.RowKit

structure Pk where
  kind : Int
  item : Int
  word : Int
  stack : Bool
mutual
inductive Tf where
  | nil
  | node (k : Int) (ls : List (List Pk)) (t : Bool) (subs : Ts) (rest : Tf)
inductive Ts where
  | nil
  | sub (l : Tf) (rest : Ts)
end
def Tf.len : Tf → Nat
  | .nil => 0
  | .node _ _ _ _ r => r.len + 1
def Ts.len : Ts → Nat
  | .nil => 0
  | .sub _ r => r.len + 1
mutual
def Tf.size : Tf → Nat
  | .nil => 0
  | .node _ _ _ s r => s.size + r.size + 1
def Ts.size : Ts → Nat
  | .nil => 0
  | .sub l r => l.size + r.size + 1
end
def Picks (w : World) : List Pk → Nat → Nat → Prop
  | [], _, _ => True
  | p :: ps, b, o => (w.cell? ⟨b, o, none⟩ = some (.int .i64 p.kind) ∧ w.cell? ⟨b, o + 1, none⟩ = some (.int .i64 p.item) ∧ w.cell? ⟨b, o + 2, none⟩ = some (.int .u64 p.word) ∧ w.cell? ⟨b, o + 3, none⟩ = some (.bool p.stack)) ∧ Picks w ps b (o + 4)
def Plines (w : World) (N : Nat) : List (List Pk) → Nat → Nat → Prop
  | [], _, _ => True
  | l :: ls, b, o => (∃ p c, w.cell? ⟨b, o, none⟩ = some (.slice p l.length c) ∧ Sl N p l.length (Picks w l)) ∧ Plines w N ls b (o + 1)
mutual
def Tf.At (w : World) (N : Nat) : Tf → Nat → Nat → Prop
  | .nil, _, _ => True
  | .node k ls t subs rest, b, o =>
    w.cell? ⟨b, o, none⟩ = some (.int .i64 k) ∧
    (∃ p c, w.cell? ⟨b, o + 1, none⟩ = some (.slice p ls.length c) ∧ Sl N p ls.length (Plines w N ls)) ∧
    w.cell? ⟨b, o + 2, none⟩ = some (.bool t) ∧
    (∃ p c, w.cell? ⟨b, o + 3, none⟩ = some (.slice p subs.len c) ∧ Sl N p subs.len (Ts.At w N subs)) ∧
    Tf.At w N rest b (o + 4)
def Ts.At (w : World) (N : Nat) : Ts → Nat → Nat → Prop
  | .nil, _, _ => True
  | .sub l rest, b, o =>
    (∃ p c, w.cell? ⟨b, o, none⟩ = some (.slice p l.len c) ∧ Sl N p l.len (Tf.At w N l)) ∧
    Ts.At w N rest b (o + 1)
end
def Tf.In (w : World) (N : Nat) (l : Tf) (p : Option Addr) : Prop := Sl N p l.len (Tf.At w N l)
def Ts.In (w : World) (N : Nat) (l : Ts) (p : Option Addr) : Prop := Sl N p l.len (Ts.At w N l)

theorem Picks.later {w w' : World} {N : Nat} (hw : Below N w w') : ∀ (xs : List Pk) (b o : Nat), b < N → Picks w xs b o → Picks w' xs b o
  | [], _, _, _, _ => trivial
  | _ :: xs, b, o, hb, h => ⟨⟨(hw.cell hb).trans h.1.1, (hw.cell hb).trans h.1.2.1, (hw.cell hb).trans h.1.2.2.1, (hw.cell hb).trans h.1.2.2.2⟩, Picks.later hw xs b (o + 4) hb h.2⟩
theorem Plines.later {w w' : World} {N M : Nat} (hw : Below N w w') (hM : N ≤ M) : ∀ (xs : List (List Pk)) (b o : Nat), b < N → Plines w N xs b o → Plines w' M xs b o
  | [], _, _, _, _ => trivial
  | x :: xs, b, o, hb, ⟨⟨p, c, h1, s1⟩, h2⟩ => ⟨⟨p, c, (hw.cell hb).trans h1, s1.imp hM fun b' o' hb' ha => Picks.later hw x b' o' hb' ha⟩, Plines.later hw hM xs b (o + 1) hb h2⟩
mutual
theorem Tf.At.later {w w' : World} {N M : Nat} (hw : Below N w w') (hM : N ≤ M) : ∀ (l : Tf) (b o : Nat), b < N → Tf.At w N l b o → Tf.At w' M l b o
  | .nil, _, _, _, _ => trivial
  | .node k is t subs rest, b, o, hb, h => by
    obtain ⟨h0, ⟨p, c, h1, s1⟩, h2, ⟨q, d, h3, s3⟩, h4⟩ := h
    exact ⟨(hw.cell hb).trans h0, ⟨p, c, (hw.cell hb).trans h1, s1.imp hM fun b' o' hb' ha => Plines.later hw hM is b' o' hb' ha⟩, (hw.cell hb).trans h2,
      ⟨q, d, (hw.cell hb).trans h3, s3.imp hM fun b' o' hb' ha => Ts.At.later hw hM subs b' o' hb' ha⟩, Tf.At.later hw hM rest b (o + 4) hb h4⟩
theorem Ts.At.later {w w' : World} {N M : Nat} (hw : Below N w w') (hM : N ≤ M) : ∀ (l : Ts) (b o : Nat), b < N → Ts.At w N l b o → Ts.At w' M l b o
  | .nil, _, _, _, _ => trivial
  | .sub l rest, b, o, hb, h => by
    obtain ⟨⟨p, c, h1, s1⟩, h4⟩ := h
    exact ⟨⟨p, c, (hw.cell hb).trans h1, s1.imp hM fun b' o' hb' ha => Tf.At.later hw hM l b' o' hb' ha⟩, Ts.At.later hw hM rest b (o + 1) hb h4⟩
end
theorem Tf.In.later {w w' : World} {N M : Nat} {l : Tf} {p : Option Addr} (h : l.In w N p) (hw : Below N w w') (hM : N ≤ M) : l.In w' M p :=
  Sl.imp h hM fun b o hb ha => Tf.At.later hw hM l b o hb ha
theorem Tf.In_later {N M : Nat} {w w' : World} {l : Tf} {p : Option Addr} (h : l.In w N p) (hb : Below M w w') (hM : N ≤ M) : l.In w' N p :=
  h.later (hb.mono hM) (Nat.le_refl _)
theorem Picks.drop {w : World} : ∀ (ds rs : List Pk) (b o : Nat), Picks w (ds ++ rs) b o → Picks w rs b (o + ds.length * 4)
  | [], _, _, o, h => by rw [List.length_nil, Nat.zero_mul]; exact h
  | _ :: ds, rs, b, o, h => by
    have := Picks.drop ds rs b (o + 4) h.2
    rw [List.length_cons, show o + (ds.length + 1) * 4 = o + 4 + ds.length * 4 by omega]; exact this
theorem Plines.drop {w : World} {N : Nat} : ∀ (ds rs : List (List Pk)) (b o : Nat), Plines w N (ds ++ rs) b o → Plines w N rs b (o + ds.length)
  | [], _, _, _, h => h
  | _ :: ds, rs, b, o, h => by
    have := Plines.drop ds rs b (o + 1) h.2
    rw [List.length_cons, show o + (ds.length + 1) = o + 1 + ds.length by omega]; exact this
end Go.Proofs.Ytdigkdfkaikagaa
