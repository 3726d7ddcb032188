/- L1, T1, T2, T3 as one. -/
import Derived.Test.YtcadeeldogknmaaChecked
import Derived.WalkKit
import Derived.ProofKit
import Derived.OpenShut
import Derived.Lib.Hide
import Derived.WalkSmall
/- Leakage as it lies in memory: lists of nodes, lists of lists. -/
namespace Go.Proofs.Ytcadeeldogknmaa
open Go.RowKit

mutual
inductive Lf where
  | nil
  | node (k : Int) (is : List Int) (t : Bool) (subs : Ls) (rest : Lf)
inductive Ls where
  | nil
  | sub (l : Lf) (rest : Ls)
end

def Lf.len : Lf → Nat
  | .nil => 0
  | .node _ _ _ _ r => r.len + 1
def Ls.len : Ls → Nat
  | .nil => 0
  | .sub _ r => r.len + 1
mutual
def Lf.size : Lf → Nat
  | .nil => 0
  | .node _ _ _ s r => s.size + r.size + 1
def Ls.size : Ls → Nat
  | .nil => 0
  | .sub l r => l.size + r.size + 1
end

/-- words at cells, one behind the other -/
def Ints (w : World) : List Int → Nat → Nat → Prop
  | [], _, _ => True
  | x :: xs, b, o => w.cell? ⟨b, o, none⟩ = some (.int .u64 x) ∧ Ints w xs b (o + 1)

/-- a slice's place: nothing is asked of an empty one -/
def Sl (N : Nat) (p : Option Addr) (n : Nat) (A : Nat → Nat → Prop) : Prop :=
  n ≤ 140737488355328 ∧ (n = 0 ∨ ∃ b o, p = some ⟨b, o, none⟩ ∧ b < N ∧ A b o)

mutual
def Lf.At (w : World) (N : Nat) : Lf → Nat → Nat → Prop
  | .nil, _, _ => True
  | .node k is t subs rest, b, o =>
    w.cell? ⟨b, o, none⟩ = some (.int .i64 k) ∧
    (∃ p c, w.cell? ⟨b, o + 1, none⟩ = some (.slice p is.length c) ∧ Sl N p is.length (Ints w is)) ∧
    w.cell? ⟨b, o + 2, none⟩ = some (.bool t) ∧
    (∃ p c, w.cell? ⟨b, o + 3, none⟩ = some (.slice p subs.len c) ∧ Sl N p subs.len (Ls.At w N subs)) ∧
    Lf.At w N rest b (o + 4)
def Ls.At (w : World) (N : Nat) : Ls → Nat → Nat → Prop
  | .nil, _, _ => True
  | .sub l rest, b, o =>
    (∃ p c, w.cell? ⟨b, o, none⟩ = some (.slice p l.len c) ∧ Sl N p l.len (Lf.At w N l)) ∧
    Ls.At w N rest b (o + 1)
end

/-- a list of nodes behind a slice's place -/
def Lf.In (w : World) (N : Nat) (l : Lf) (p : Option Addr) : Prop := Sl N p l.len (Lf.At w N l)
def Ls.In (w : World) (N : Nat) (l : Ls) (p : Option Addr) : Prop := Sl N p l.len (Ls.At w N l)

theorem Sl.imp {N M : Nat} {p : Option Addr} {n : Nat} {A B : Nat → Nat → Prop} (h : Sl N p n A) (hN : N ≤ M) (hAB : ∀ b o, b < N → A b o → B b o) : Sl M p n B := by
  rcases h with ⟨hm, h | ⟨b, o, hp, hb, ha⟩⟩
  · exact ⟨hm, .inl h⟩
  · exact ⟨hm, .inr ⟨b, o, hp, Nat.lt_of_lt_of_le hb hN, hAB b o hb ha⟩⟩

theorem Ints.later {w w' : World} {N : Nat} (hw : Below N w w') : ∀ (xs : List Int) (b o : Nat), b < N → Ints w xs b o → Ints w' xs b o
  | [], _, _, _, _ => trivial
  | _ :: xs, b, o, hb, h => ⟨(hw.cell hb).trans h.1, Ints.later hw xs b (o + 1) hb h.2⟩

mutual
theorem Lf.At.later {w w' : World} {N M : Nat} (hw : Below N w w') (hM : N ≤ M) : ∀ (l : Lf) (b o : Nat), b < N → Lf.At w N l b o → Lf.At w' M l b o
  | .nil, _, _, _, _ => trivial
  | .node k is t subs rest, b, o, hb, h => by
    obtain ⟨h0, ⟨p, c, h1, s1⟩, h2, ⟨q, d, h3, s3⟩, h4⟩ := h
    exact ⟨(hw.cell hb).trans h0, ⟨p, c, (hw.cell hb).trans h1, s1.imp hM fun b' o' hb' ha => Ints.later hw is b' o' hb' ha⟩, (hw.cell hb).trans h2,
      ⟨q, d, (hw.cell hb).trans h3, s3.imp hM fun b' o' hb' ha => Ls.At.later hw hM subs b' o' hb' ha⟩, Lf.At.later hw hM rest b (o + 4) hb h4⟩
theorem Ls.At.later {w w' : World} {N M : Nat} (hw : Below N w w') (hM : N ≤ M) : ∀ (l : Ls) (b o : Nat), b < N → Ls.At w N l b o → Ls.At w' M l b o
  | .nil, _, _, _, _ => trivial
  | .sub l rest, b, o, hb, h => by
    obtain ⟨⟨p, c, h1, s1⟩, h4⟩ := h
    exact ⟨⟨p, c, (hw.cell hb).trans h1, s1.imp hM fun b' o' hb' ha => Lf.At.later hw hM l b' o' hb' ha⟩, Ls.At.later hw hM rest b (o + 1) hb h4⟩
end

theorem Lf.In.later {w w' : World} {N M : Nat} {l : Lf} {p : Option Addr} (h : l.In w N p) (hw : Below N w w') (hM : N ≤ M) : l.In w' M p :=
  Sl.imp h hM fun b o hb ha => Lf.At.later hw hM l b o hb ha
theorem Ls.In.later {w w' : World} {N M : Nat} {l : Ls} {p : Option Addr} (h : l.In w N p) (hw : Below N w w') (hM : N ≤ M) : l.In w' M p :=
  Sl.imp h hM fun b o hb ha => Ls.At.later hw hM l b o hb ha
theorem Lf.In.nil (w : World) (N : Nat) (p : Option Addr) : Lf.nil.In w N p := ⟨Nat.zero_le _, .inl rfl⟩
theorem Ls.In.nil (w : World) (N : Nat) (p : Option Addr) : Ls.nil.In w N p := ⟨Nat.zero_le _, .inl rfl⟩
theorem Ints.drop {w : World} : ∀ (ds rs : List Int) (b o : Nat), Ints w (ds ++ rs) b o → Ints w rs b (o + ds.length)
  | [], _, _, _, h => h
  | _ :: ds, rs, b, o, h => by
    have := Ints.drop ds rs b (o + 1) h.2
    rw [List.length_cons, show o + (ds.length + 1) = o + 1 + ds.length by omega]; exact this
theorem own_form {w : World} {base size n : Nat} {e : TypeId} {v : Value} {xs : List Value} (h : w.ownsRow base e size v n xs) (hn : 0 < n) : ∃ g cap, v = .slice (some ⟨g, 0, none⟩) n cap := by
  rcases h.2 with ⟨_, h0⟩ | ⟨g, cap, cur, hv, _⟩
  · omega
  · exact ⟨g, cap, hv⟩
theorem ret_bool {a b : Bool} (h : a = b) : Ending.returned (.bool a) = .returned (.bool b) := by rw [h]
theorem ret_int {k : IntKind} {a b : Int} (h : a = b) : Ending.returned (.int k a) = .returned (.int k b) := by rw [h]
theorem beq_cast (n : Nat) (m : Int) : ((n : Int) == m) = decide ((n : Int) = m) := by rw [Bool.eq_iff_iff]; simp
theorem bool_of {a b : Bool} (h : a = true ↔ b = true) : a = b := Bool.eq_iff_iff.2 h
end Go.Proofs.Ytcadeeldogknmaa
/- Terms as they lie in memory. -/
namespace Go.Proofs.Ytcadeeldogknmaa
open Go.RowKit

structure Pk where
  kind : Int
  item : Int
  word : Int
  stack : Bool
mutual
inductive Tf where
  | nil
  | node (k : Int) (ls : List (List Pk)) (t : Bool) (subs : Ts) (rest : Tf)
inductive Ts where
  | nil
  | sub (l : Tf) (rest : Ts)
end
def Tf.len : Tf → Nat
  | .nil => 0
  | .node _ _ _ _ r => r.len + 1
def Ts.len : Ts → Nat
  | .nil => 0
  | .sub _ r => r.len + 1
mutual
def Tf.size : Tf → Nat
  | .nil => 0
  | .node _ _ _ s r => s.size + r.size + 1
def Ts.size : Ts → Nat
  | .nil => 0
  | .sub l r => l.size + r.size + 1
end
def Picks (w : World) : List Pk → Nat → Nat → Prop
  | [], _, _ => True
  | p :: ps, b, o => (w.cell? ⟨b, o, none⟩ = some (.int .i64 p.kind) ∧ w.cell? ⟨b, o + 1, none⟩ = some (.int .i64 p.item) ∧ w.cell? ⟨b, o + 2, none⟩ = some (.int .u64 p.word) ∧ w.cell? ⟨b, o + 3, none⟩ = some (.bool p.stack)) ∧ Picks w ps b (o + 4)
def Plines (w : World) (N : Nat) : List (List Pk) → Nat → Nat → Prop
  | [], _, _ => True
  | l :: ls, b, o => (∃ p c, w.cell? ⟨b, o, none⟩ = some (.slice p l.length c) ∧ Sl N p l.length (Picks w l)) ∧ Plines w N ls b (o + 1)
mutual
def Tf.At (w : World) (N : Nat) : Tf → Nat → Nat → Prop
  | .nil, _, _ => True
  | .node k ls t subs rest, b, o =>
    w.cell? ⟨b, o, none⟩ = some (.int .i64 k) ∧
    (∃ p c, w.cell? ⟨b, o + 1, none⟩ = some (.slice p ls.length c) ∧ Sl N p ls.length (Plines w N ls)) ∧
    w.cell? ⟨b, o + 2, none⟩ = some (.bool t) ∧
    (∃ p c, w.cell? ⟨b, o + 3, none⟩ = some (.slice p subs.len c) ∧ Sl N p subs.len (Ts.At w N subs)) ∧
    Tf.At w N rest b (o + 4)
def Ts.At (w : World) (N : Nat) : Ts → Nat → Nat → Prop
  | .nil, _, _ => True
  | .sub l rest, b, o =>
    (∃ p c, w.cell? ⟨b, o, none⟩ = some (.slice p l.len c) ∧ Sl N p l.len (Tf.At w N l)) ∧
    Ts.At w N rest b (o + 1)
end
def Tf.In (w : World) (N : Nat) (l : Tf) (p : Option Addr) : Prop := Sl N p l.len (Tf.At w N l)
def Ts.In (w : World) (N : Nat) (l : Ts) (p : Option Addr) : Prop := Sl N p l.len (Ts.At w N l)

theorem Picks.later {w w' : World} {N : Nat} (hw : Below N w w') : ∀ (xs : List Pk) (b o : Nat), b < N → Picks w xs b o → Picks w' xs b o
  | [], _, _, _, _ => trivial
  | _ :: xs, b, o, hb, h => ⟨⟨(hw.cell hb).trans h.1.1, (hw.cell hb).trans h.1.2.1, (hw.cell hb).trans h.1.2.2.1, (hw.cell hb).trans h.1.2.2.2⟩, Picks.later hw xs b (o + 4) hb h.2⟩
theorem Plines.later {w w' : World} {N M : Nat} (hw : Below N w w') (hM : N ≤ M) : ∀ (xs : List (List Pk)) (b o : Nat), b < N → Plines w N xs b o → Plines w' M xs b o
  | [], _, _, _, _ => trivial
  | x :: xs, b, o, hb, ⟨⟨p, c, h1, s1⟩, h2⟩ => ⟨⟨p, c, (hw.cell hb).trans h1, s1.imp hM fun b' o' hb' ha => Picks.later hw x b' o' hb' ha⟩, Plines.later hw hM xs b (o + 1) hb h2⟩
mutual
theorem Tf.At.later {w w' : World} {N M : Nat} (hw : Below N w w') (hM : N ≤ M) : ∀ (l : Tf) (b o : Nat), b < N → Tf.At w N l b o → Tf.At w' M l b o
  | .nil, _, _, _, _ => trivial
  | .node k is t subs rest, b, o, hb, h => by
    obtain ⟨h0, ⟨p, c, h1, s1⟩, h2, ⟨q, d, h3, s3⟩, h4⟩ := h
    exact ⟨(hw.cell hb).trans h0, ⟨p, c, (hw.cell hb).trans h1, s1.imp hM fun b' o' hb' ha => Plines.later hw hM is b' o' hb' ha⟩, (hw.cell hb).trans h2,
      ⟨q, d, (hw.cell hb).trans h3, s3.imp hM fun b' o' hb' ha => Ts.At.later hw hM subs b' o' hb' ha⟩, Tf.At.later hw hM rest b (o + 4) hb h4⟩
theorem Ts.At.later {w w' : World} {N M : Nat} (hw : Below N w w') (hM : N ≤ M) : ∀ (l : Ts) (b o : Nat), b < N → Ts.At w N l b o → Ts.At w' M l b o
  | .nil, _, _, _, _ => trivial
  | .sub l rest, b, o, hb, h => by
    obtain ⟨⟨p, c, h1, s1⟩, h4⟩ := h
    exact ⟨⟨p, c, (hw.cell hb).trans h1, s1.imp hM fun b' o' hb' ha => Tf.At.later hw hM l b' o' hb' ha⟩, Ts.At.later hw hM rest b (o + 1) hb h4⟩
end
theorem Tf.In.later {w w' : World} {N M : Nat} {l : Tf} {p : Option Addr} (h : l.In w N p) (hw : Below N w w') (hM : N ≤ M) : l.In w' M p :=
  Sl.imp h hM fun b o hb ha => Tf.At.later hw hM l b o hb ha
theorem Tf.In_later {N M : Nat} {w w' : World} {l : Tf} {p : Option Addr} (h : l.In w N p) (hb : Below M w w') (hM : N ≤ M) : l.In w' N p :=
  h.later (hb.mono hM) (Nat.le_refl _)
theorem Picks.drop {w : World} : ∀ (ds rs : List Pk) (b o : Nat), Picks w (ds ++ rs) b o → Picks w rs b (o + ds.length * 4)
  | [], _, _, o, h => by rw [List.length_nil, Nat.zero_mul]; exact h
  | _ :: ds, rs, b, o, h => by
    have := Picks.drop ds rs b (o + 4) h.2
    rw [List.length_cons, show o + (ds.length + 1) * 4 = o + 4 + ds.length * 4 by omega]; exact this
theorem Plines.drop {w : World} {N : Nat} : ∀ (ds rs : List (List Pk)) (b o : Nat), Plines w N (ds ++ rs) b o → Plines w N rs b (o + ds.length)
  | [], _, _, _, h => h
  | _ :: ds, rs, b, o, h => by
    have := Plines.drop ds rs b (o + 1) h.2
    rw [List.length_cons, show o + (ds.length + 1) = o + 1 + ds.length by omega]; exact this
end Go.Proofs.Ytcadeeldogknmaa
/- Picks: may they be, and the greatest item that they pick. -/
namespace Go.Proofs.Ytcadeeldogknmaa
open Go.RowKit

def Pk.ok (p : Pk) : Bool := decide (1 ≤ p.kind) && decide (p.kind ≤ 4) && decide (0 ≤ p.item)
def picksOk (ls : List (List Pk)) : Bool := ls.all fun l => l.all Pk.ok

set_option maxHeartbeats 1600000 in
theorem arePicks_any (ls : List (List Pk)) (p : Option Addr) (cap N : Nat) (w : World) (h : Sl N p ls.length (Plines w N ls)) (hN : N ≤ w.heap.size) :
    Calls Try.prog 35 #[.slice p ls.length cap] w fun e w' => e = .returned (.bool (picksOk ls)) ∧ Below w.heap.size w w' := by
  have S0 := Lib.hid h
  have hm := h.1
  clear h
  go_enter Try.func35, Try.ntmps35
  go_wp2_with fail
  go_loopw [9] (fun i wr => ∃ (ds rs : List (List Pk)), i = .int .i64 ds.length ∧ ds.length + rs.length = ls.length ∧ Hid (ls = ds ++ rs) ∧ Hid (picksOk ls = picksOk rs) ∧ Hid (Below w.heap.size w wr))
    (fun i _ => ls.length - (intOf i).toNat)
  case atStart => exact ⟨[], ls, rfl, by simp, Lib.hid rfl, Lib.hid rfl, Lib.hid (Below.refl _ _)⟩
  case round =>
    obtain ⟨ds, rs, rfl, hj, hE, hP, hB⟩ := hrel
    cases rs with
    | nil =>
      simp only [List.length_nil] at hj
      have hge : ¬ ds.length < ls.length := by omega
      go_wp2_with fail
      go_ret
      exact ⟨ret_bool (by rw [hP.out]; rfl), hB.out⟩
    | cons x rs =>
      simp only [List.length_cons] at hj
      have hlt : ds.length < ls.length := by omega
      rcases S0.out.2 with h30 | ⟨b, o, rfl, hb, ha⟩
      · omega
      rw [hE.out] at ha
      obtain ⟨⟨q, c, g1, s1⟩, _⟩ := Plines.drop _ _ _ _ ha
      have f1 := (hB.out.cell (show b < w.heap.size by omega)).trans g1
      have S1 := Lib.hid s1
      have hm1 := s1.1
      clear ha s1 g1
      go_wp2_with fail
      have hP1 := Lib.hid (show picksOk ls = (x.all Pk.ok && picksOk rs) by rw [hP.out]; rfl)
      clear hP f1
      go_loopw [15] (fun i wr' => ∃ (us vs : List Pk), i = .int .i64 us.length ∧ us.length + vs.length = x.length ∧ Hid (x = us ++ vs) ∧ Hid (picksOk ls = (vs.all Pk.ok && picksOk rs)) ∧ Hid (Below w.heap.size w wr'))
        (fun i _ => x.length - (intOf i).toNat)
      case atStart => exact ⟨[], x, rfl, by simp, Lib.hid rfl, hP1, hB⟩
      case round =>
        clear hP1 hB
        obtain ⟨us, vs, rfl, hj2, hE2, hP2, hB⟩ := hrel
        cases vs with
        | nil =>
          simp only [List.length_nil] at hj2
          have hge : ¬ us.length < x.length := by omega
          go_wp2_with fail
          go_roundw
          case rel => exact ⟨ds ++ [x], rs, by rw [List.length_append]; go_num, by simp; omega, Lib.hid (by rw [hE.out]; simp), Lib.hid (by rw [hP2.out]; rfl), hB⟩
          case measure => simp [intOf]; omega
        | cons y vs =>
          simp only [List.length_cons] at hj2
          have hlt2 : us.length < x.length := by omega
          rcases S1.out.2 with h31 | ⟨b1, o1, rfl, hb1, ha1⟩
          · omega
          rw [hE2.out] at ha1
          obtain ⟨⟨c0, c1, c2, c3⟩, _⟩ := Picks.drop _ _ _ _ ha1
          have d0 := (hB.out.cell (show b1 < w.heap.size by omega)).trans c0
          have d1 := (hB.out.cell (show b1 < w.heap.size by omega)).trans c1
          have d2 := (hB.out.cell (show b1 < w.heap.size by omega)).trans c2
          have d3 := (hB.out.cell (show b1 < w.heap.size by omega)).trans c3
          clear ha1 c0 c1 c2 c3
          have hAl := Lib.hid (fun (o : Obj) => hB.out.alloc hB.out.size o)
          have hyk := Lib.hid (show y.ok = (decide (1 ≤ y.kind) && decide (y.kind ≤ 4) && decide (0 ≤ y.item)) from rfl)
          have hP3 := Lib.hid (show picksOk ls = (y.ok && vs.all Pk.ok && picksOk rs) by rw [hP2.out]; rfl)
          obtain ⟨kd, it, wd, st⟩ := y
          simp only at hyk
          go_wp2_with fail
          all_goals first
            | (go_ret; refine ⟨ret_bool ?_, hAl.out _⟩; rw [hP3.out, hyk.out]; apply bool_of; simp; omega)
            | (go_roundw
               case rel =>
                 refine ⟨us ++ [⟨kd, it, wd, st⟩], vs, by rw [List.length_append]; go_num, by simp; omega, Lib.hid (by rw [hE2.out]; simp), Lib.hid ?_, Lib.hid (hAl.out _)⟩
                 have h1 : decide (1 ≤ kd) = true := decide_eq_true (by omega)
                 have h2 : decide (kd ≤ 4) = true := decide_eq_true (by omega)
                 have h3 : decide (0 ≤ it) = true := decide_eq_true (by omega)
                 rw [hP3.out, hyk.out, h1, h2, h3]; rfl
               case measure => simp [intOf]; omega)
end Go.Proofs.Ytcadeeldogknmaa
/- The greatest item that picks pick; the document's picks. -/
namespace Go.Proofs.Ytcadeeldogknmaa
open Go.RowKit

def gItem (m : Int) (p : Pk) : Int := if p.kind = 1 ∨ p.kind = 3 then (if m < p.item then p.item else m) else m
def gLine (m : Int) (l : List Pk) : Int := l.foldl gItem m
def greatestL (ls : List (List Pk)) : Int := ls.foldl gLine (-1)

set_option maxHeartbeats 1600000 in
theorem greatest_any (ls : List (List Pk)) (p : Option Addr) (cap N : Nat) (w : World) (h : Sl N p ls.length (Plines w N ls)) (hN : N ≤ w.heap.size) :
    Calls Try.prog 60 #[.slice p ls.length cap] w fun e w' => e = .returned (.int .i64 (greatestL ls)) ∧ Below w.heap.size w w' := by
  have S0 := Lib.hid h
  have hm := h.1
  clear h
  go_enter Try.func60, Try.ntmps60
  go_wp2_with fail
  go_loopw [3, 10] (fun g i wr => ∃ (ds rs : List (List Pk)) (m : Int), g = .int .i64 m ∧ i = .int .i64 ds.length ∧ ds.length + rs.length = ls.length ∧ Hid (ls = ds ++ rs) ∧ Hid (greatestL ls = rs.foldl gLine m) ∧ Hid (Below w.heap.size w wr))
    (fun _ i _ => ls.length - (intOf i).toNat)
  case atStart => exact ⟨[], ls, -1, rfl, rfl, by simp, Lib.hid rfl, Lib.hid rfl, Lib.hid (Below.refl _ _)⟩
  case round =>
    obtain ⟨ds, rs, m, rfl, rfl, hj, hE, hP, hB⟩ := hrel
    cases rs with
    | nil =>
      simp only [List.length_nil] at hj
      have hge : ¬ ds.length < ls.length := by omega
      go_wp2_with fail
      go_ret
      exact ⟨ret_int (by rw [hP.out]; rfl), hB.out⟩
    | cons x rs =>
      simp only [List.length_cons] at hj
      have hlt : ds.length < ls.length := by omega
      rcases S0.out.2 with h30 | ⟨b, o, rfl, hb, ha⟩
      · omega
      rw [hE.out] at ha
      obtain ⟨⟨q, c, g1, s1⟩, _⟩ := Plines.drop _ _ _ _ ha
      have f1 := (hB.out.cell (show b < w.heap.size by omega)).trans g1
      have S1 := Lib.hid s1
      have hm1 := s1.1
      clear ha s1 g1
      go_wp2_with fail
      have hP1 := Lib.hid (show greatestL ls = rs.foldl gLine (x.foldl gItem m) by rw [hP.out]; rfl)
      clear hP f1
      go_loopw [3, 16] (fun g i wr' => ∃ (us vs : List Pk) (m2 : Int), g = .int .i64 m2 ∧ i = .int .i64 us.length ∧ us.length + vs.length = x.length ∧ Hid (x = us ++ vs) ∧ Hid (greatestL ls = rs.foldl gLine (vs.foldl gItem m2)) ∧ Hid (Below w.heap.size w wr'))
        (fun _ i _ => x.length - (intOf i).toNat)
      case atStart => exact ⟨[], x, m, rfl, rfl, by simp, Lib.hid rfl, hP1, hB⟩
      case round =>
        clear hP1 hB
        obtain ⟨us, vs, m2, rfl, rfl, hj2, hE2, hP2, hB⟩ := hrel
        cases vs with
        | nil =>
          simp only [List.length_nil] at hj2
          have hge : ¬ us.length < x.length := by omega
          go_wp2_with fail
          go_roundw
          case rel => exact ⟨ds ++ [x], rs, m2, rfl, by rw [List.length_append]; go_num, by simp; omega, Lib.hid (by rw [hE.out]; simp), Lib.hid (by rw [hP2.out]; rfl), hB⟩
          case measure => simp [intOf]; omega
        | cons y vs =>
          simp only [List.length_cons] at hj2
          have hlt2 : us.length < x.length := by omega
          rcases S1.out.2 with h31 | ⟨b1, o1, rfl, hb1, ha1⟩
          · omega
          rw [hE2.out] at ha1
          obtain ⟨⟨c0, c1, c2, c3⟩, _⟩ := Picks.drop _ _ _ _ ha1
          have d0 := (hB.out.cell (show b1 < w.heap.size by omega)).trans c0
          have d1 := (hB.out.cell (show b1 < w.heap.size by omega)).trans c1
          have d2 := (hB.out.cell (show b1 < w.heap.size by omega)).trans c2
          have d3 := (hB.out.cell (show b1 < w.heap.size by omega)).trans c3
          clear ha1 c0 c1 c2 c3
          have hAl := Lib.hid (fun (o : Obj) => hB.out.alloc hB.out.size o)
          have hP3 := Lib.hid (show greatestL ls = rs.foldl gLine (vs.foldl gItem (gItem m2 y)) by rw [hP2.out]; rfl)
          obtain ⟨kd, it, wd, st⟩ := y
          go_wp2_with fail
          · go_roundw
            case rel =>
              refine ⟨us ++ [⟨kd, it, wd, st⟩], vs, _, rfl, by rw [List.length_append]; go_num, by simp; omega, Lib.hid (by rw [hE2.out]; simp), Lib.hid ?_, Lib.hid (by first | exact hB.out | exact hAl.out _)⟩
              rw [hP3.out]; simp only [gItem]
              rw [if_pos (Or.inl (by assumption))]
            case measure => simp [intOf]; omega
          · go_roundw
            case rel =>
              refine ⟨us ++ [⟨kd, it, wd, st⟩], vs, _, rfl, by rw [List.length_append]; go_num, by simp; omega, Lib.hid (by rw [hE2.out]; simp), Lib.hid ?_, Lib.hid (by first | exact hB.out | exact hAl.out _)⟩
              rw [hP3.out]; simp only [gItem]
              have h : (kd == 1) = true ∨ (kd == 3) = true := by assumption
              rw [if_pos (by simpa using h)]
            case measure => simp [intOf]; omega
          · go_roundw
            case rel =>
              refine ⟨us ++ [⟨kd, it, wd, st⟩], vs, _, rfl, by rw [List.length_append]; go_num, by simp; omega, Lib.hid (by rw [hE2.out]; simp), Lib.hid ?_, Lib.hid (by first | exact hB.out | exact hAl.out _)⟩
              rw [hP3.out]; simp only [gItem]
              have h : (kd == 1) = false ∧ (kd == 3) = false := by assumption
              rw [if_neg (by simpa using h)]
            case measure => simp [intOf]; omega

def Pk.fits (items : Bool) (p : Pk) : Bool := p.ok && (items || !(p.kind == 1 || p.kind == 3))
def refPicks (items : Bool) (ls : List (List Pk)) : Bool := ls.all fun l => l.all (Pk.fits items)

end Go.Proofs.Ytcadeeldogknmaa
