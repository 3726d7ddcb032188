/- A1, A2, S1, S2, S3, S4, B1, A3, A0, B2, A4, E3, E1 as one. -/
import Derived.Test.YtlhbledakddbbaaGreatDoorProg
import Derived.WalkKit
import Derived.BigQuiet
import Derived.Deep.QuietTactic
import Derived.Lib.Hide
import Derived.Outline
import Derived.Test.YtlhbledakddbbaaGreatDoorRows
import Derived.ProofKit
import Derived.OpenShut
import Derived.Handed
import Derived.Lib.IndexBytes
import Derived.Lib.Strings
import Derived.StillTailTactics
import Derived.Deep.RegionHeld3
import Derived.Lib.AppendStr
import Derived.Lib.OwnKind
import Derived.Laws.IdiomStrings
import Derived.Maps.OwnSet
import Derived.Test.YtlhbledakddbbaaGreatDoorShelf
import Derived.Lib.OthersKept
import Derived.Lib.BufferKept
import Derived.Lib.AppendIntMem
import Derived.Lib.ItoaNum
import Derived.Deep.RegionLaw
import Derived.Lib.ItoaMem
import Derived.Lib.ItoaLen
import Derived.Lib.ItoaWalk
import Derived.Lib.Walk
import Derived.BigCall
import Derived.BigGuard
import Derived.Lib.Slices
/- Expressions as they lie in memory. -/
namespace Go.Proofs.YtlhbledakddbbaaGreatDoor
open Go.RowKit

mutual
inductive Ex where
  | mk (op : Int) (word : Nat) (name : List UInt8) (args : Exs)
inductive Exs where
  | nil
  | cons (x : Ex) (rest : Exs)
end
def Exs.len : Exs → Nat
  | .nil => 0
  | .cons _ r => r.len + 1
mutual
def Ex.size : Ex → Nat
  | .mk _ _ _ a => a.size + 1
def Exs.size : Exs → Nat
  | .nil => 0
  | .cons x r => x.size + r.size + 1
end
def Ex.op : Ex → Int | .mk o _ _ _ => o
def Ex.word : Ex → Nat | .mk _ n _ _ => n
def Ex.name : Ex → List UInt8 | .mk _ _ n _ => n
def Ex.args : Ex → Exs | .mk _ _ _ a => a

/-- a text out of its bytes -/
def str (l : List UInt8) : ByteArray := ⟨l.toArray⟩
theorem str_data (l : List UInt8) : (str l).data.toList = l := rfl
theorem bytes_ext {a b : ByteArray} (h : a.data.toList = b.data.toList) : a = b := by
  obtain ⟨⟨x⟩⟩ := a; obtain ⟨⟨y⟩⟩ := b; cases h; rfl
theorem str_eta (s : ByteArray) : str s.data.toList = s := bytes_ext rfl
theorem size_len (s : ByteArray) : s.size = s.data.toList.length := by rw [Array.length_toList]; rfl
theorem size_str (l : List UInt8) : (str l).size = l.length := by rw [size_len, str_data]
/-- a slice's place: nothing is asked of an empty one -/
def Sl (N : Nat) (p : Option Addr) (n : Nat) (A : Nat → Nat → Prop) : Prop :=
  n ≤ 140737488355328 ∧ (n = 0 ∨ ∃ b o, p = some ⟨b, o, none⟩ ∧ b < N ∧ A b o)
mutual
def Ex.At (w : World) (N : Nat) : Ex → Nat → Nat → Prop
  | .mk op x nm as', b, o =>
    (w.cell? ⟨b, o, none⟩ = some (.int .i64 op) ∧ w.cell? ⟨b, o + 1, none⟩ = some (.int .u64 (x : Int)) ∧ w.cell? ⟨b, o + 2, none⟩ = some (.string (str nm)) ∧ x < 18446744073709551616) ∧
    (∃ p c, w.cell? ⟨b, o + 3, none⟩ = some (.slice p as'.len c) ∧ Sl N p as'.len (Exs.At w N as'))
def Exs.At (w : World) (N : Nat) : Exs → Nat → Nat → Prop
  | .nil, _, _ => True
  | .cons x r, b, o => Ex.At w N x b o ∧ Exs.At w N r b (o + 4)
end
def Exs.In (w : World) (N : Nat) (l : Exs) (p : Option Addr) : Prop := Sl N p l.len (Exs.At w N l)
theorem Sl.imp {N M : Nat} {p : Option Addr} {n : Nat} {A B : Nat → Nat → Prop} (h : Sl N p n A) (hN : N ≤ M) (hAB : ∀ b o, b < N → A b o → B b o) : Sl M p n B := by
  rcases h with ⟨hm, h | ⟨b, o, hp, hb, ha⟩⟩
  · exact ⟨hm, .inl h⟩
  · exact ⟨hm, .inr ⟨b, o, hp, Nat.lt_of_lt_of_le hb hN, hAB b o hb ha⟩⟩
mutual
theorem Ex.At.later {w w' : World} {N M : Nat} (hw : Below N w w') (hM : N ≤ M) : ∀ (x : Ex) (b o : Nat), b < N → Ex.At w N x b o → Ex.At w' M x b o
  | .mk op x nm as', b, o, hb, h => by
    obtain ⟨⟨h0, h1, h2, h3⟩, ⟨p, c, h4, s4⟩⟩ := h
    exact ⟨⟨(hw.cell hb).trans h0, (hw.cell hb).trans h1, (hw.cell hb).trans h2, h3⟩, ⟨p, c, (hw.cell hb).trans h4, s4.imp hM fun b' o' hb' ha => Exs.At.later hw hM as' b' o' hb' ha⟩⟩
theorem Exs.At.later {w w' : World} {N M : Nat} (hw : Below N w w') (hM : N ≤ M) : ∀ (l : Exs) (b o : Nat), b < N → Exs.At w N l b o → Exs.At w' M l b o
  | .nil, _, _, _, _ => trivial
  | .cons x r, b, o, hb, h => ⟨Ex.At.later hw hM x b o hb h.1, Exs.At.later hw hM r b (o + 4) hb h.2⟩
end
theorem Exs.In.later {w w' : World} {N M : Nat} {l : Exs} {p : Option Addr} (h : l.In w N p) (hw : Below N w w') (hM : N ≤ M) : l.In w' M p :=
  Sl.imp h hM fun b o hb ha => Exs.At.later hw hM l b o hb ha
theorem Exs.In.nil (w : World) (N : Nat) (p : Option Addr) : Exs.nil.In w N p := ⟨Nat.zero_le _, .inl rfl⟩
/-- an expression as a value -/
def Ex.val (x : Ex) (p : Option Addr) (c : Nat) : Value := .agg #[.int .i64 x.op, .int .u64 (x.word : Int), .string (str x.name), .slice p x.args.len c]
/-- it is one: its arguments lie there -/
def Ex.Ok (w : World) (N : Nat) (x : Ex) (p : Option Addr) : Prop := x.args.In w N p ∧ x.word < 18446744073709551616
theorem Ex.Ok.later {w w' : World} {N M : Nat} {x : Ex} {p : Option Addr} (h : x.Ok w N p) (hw : Below N w w') (hM : N ≤ M) : x.Ok w' M p := ⟨h.1.later hw hM, h.2⟩
theorem ret_bool {a b : Bool} (h : a = b) : Ending.returned (.bool a) = .returned (.bool b) := by rw [h]
theorem ret_int {k : IntKind} {a b : Int} (h : a = b) : Ending.returned (.int k a) = .returned (.int k b) := by rw [h]
theorem below_drewN {B : Nat} {a w : World} (h : Below B a w) (n : Nat) : Below B a (w.drewN n) := by
  induction n with
  | zero => exact h
  | succ n ih => exact ih.drew
end Go.Proofs.YtlhbledakddbbaaGreatDoor
/- How deep an expression is. -/
namespace Go.Proofs.YtlhbledakddbbaaGreatDoor
open Go.RowKit

mutual
def Ex.depth : Ex → Nat
  | .mk _ _ _ a => 1 + a.deepest
def Exs.deepest : Exs → Nat
  | .nil => 0
  | .cons x r => max x.depth r.deepest
end
mutual
theorem Ex.depth_le : ∀ x : Ex, x.depth ≤ x.size
  | .mk _ _ _ a => by have := Exs.deepest_le a; rw [Ex.depth, Ex.size]; omega
theorem Exs.deepest_le : ∀ a : Exs, a.deepest ≤ a.size
  | .nil => Nat.le_refl _
  | .cons x r => by have := Ex.depth_le x; have := Exs.deepest_le r; rw [Exs.deepest, Exs.size]; omega
end
def DepthTo (n : Nat) : Prop := ∀ (x : Ex), x.size < n → x.size ≤ 1000000 → ∀ (b o N : Nat) (w : World), b < N → x.At w N b o →
    Calls Tryz.prog 38 #[.pointer (some ⟨b, o, none⟩)] w fun e w' => e = .returned (.int .i64 x.depth) ∧ w = w'

set_option maxHeartbeats 1600000 in
theorem deepest_step (n : Nat) (ih : DepthTo n) (l : Exs) (hl : l.size ≤ n) (hl6 : l.size ≤ 1000000) (p : Option Addr) (c N : Nat) (w : World) (h : l.In w N p) :
    Calls Tryz.prog 81 #[.slice p l.len c, .func (.func 38) #[] #[]] w fun e w' => e = .returned (.int .i64 l.deepest) ∧ w = w' := by
  have IH := Lib.hid ih
  clear ih
  rcases h with ⟨hm, h0 | ⟨b, o, rfl, hb, ha⟩⟩
  · go_enter Tryz.func81, Tryz.ntmps81
    go_wp2_with fail
    go_loopw [5, 9] (fun d i wr => d = .int .i64 0 ∧ i = .int .i64 0 ∧ wr = w) (fun _ _ _ => 0)
    case atStart => exact ⟨rfl, rfl, rfl⟩
    case round =>
      obtain ⟨rfl, rfl, rfl⟩ := hrel
      have hge : ¬ 0 < l.len := by omega
      go_wp2_with fail
      go_ret
      exact ⟨ret_int (by cases l with | nil => rfl | cons => simp [Exs.len] at h0), rfl⟩
  · have HD := Lib.hid (Exs.deepest_le l)
    go_enter Tryz.func81, Tryz.ntmps81
    go_wp2_with fail
    go_loopw [5, 9] (fun d i wr => ∃ (k m : Nat) (r : Exs), d = .int .i64 m ∧ i = .int .i64 k ∧ k + r.len = l.len ∧ r.size ≤ n ∧ r.size ≤ 1000000 ∧ r.At w N b (o + k * 4) ∧ Hid (l.deepest = max m r.deepest) ∧ m ≤ 1000000 ∧ wr = w) (fun _ i _ => l.len - (intOf i).toNat)
    case atStart => exact ⟨0, 0, l, rfl, rfl, by omega, hl, hl6, by rw [Nat.zero_mul]; exact ha, Lib.hid (by omega), by omega, rfl⟩
    case round =>
      obtain ⟨k, m, r, rfl, rfl, hk, hrs, hr6, hr, hE, hm6, rfl⟩ := hrel
      cases r with
      | nil =>
        simp only [Exs.len] at hk
        have hge : ¬ k < l.len := by omega
        go_wp2_with fail
        go_ret
        exact ⟨ret_int (by rw [hE.out]; simp [Exs.deepest]), rfl⟩
      | cons x r =>
        obtain ⟨hx, hr⟩ := hr
        simp only [Exs.len] at hk
        simp only [Exs.size] at hrs hr6
        have hlt : k < l.len := by omega
        have hxd := Ex.depth_le x
        have hxm : x.depth ≤ 1000000 := by have h1 := hE.out; have h2 := HD.out; simp only [Exs.deepest] at h1; omega
        have HC := Lib.hid (IH.out x (by omega) (by omega) b (o + k * 4) N _ hb hx)
        have HE := Lib.hid (show l.deepest = max (max m x.depth) r.deepest by rw [hE.out, Exs.deepest]; omega)
        generalize x.depth = dx at HC HE hxm
        clear hx hxd
        go_wp2_with fail
        refine HC.out.mono ?_
        rintro e w' ⟨rfl, rfl⟩
        go_wp2_with fail
        go_roundw
        case rel => exact ⟨k + 1, max m dx, r, by go_num, by go_num, by omega, by omega, by omega, by rw [show o + (k + 1) * 4 = o + k * 4 + 4 by omega]; exact hr, HE, by omega, trivial⟩
        case measure => simp [intOf]; omega

set_option maxHeartbeats 1600000 in
theorem depth_step (n : Nat) (ih : DepthTo n) : DepthTo (n + 1) := by
  intro x hxs hx6 b o N w hb hx
  obtain ⟨op, wd, nm, ar⟩ := x
  obtain ⟨⟨h0, h1, h2, h3⟩, ⟨p, c, h4, s4⟩⟩ := hx
  simp only [Ex.size] at hxs hx6
  have HD := Lib.hid (deepest_step n ih ar (by omega) (by omega) p c N w s4)
  have hd := Exs.deepest_le ar
  rw [show (Ex.mk op wd nm ar).depth = 1 + ar.deepest by rw [Ex.depth]]
  generalize ar.deepest = m at HD hd
  clear ih s4
  go_enter Tryz.func38, Tryz.ntmps38
  go_wp2_with fail
  refine HD.out.mono ?_
  rintro e w' ⟨rfl, rfl⟩
  go_wp2_with fail
  go_ret
  exact ⟨ret_int (by omega), rfl⟩
theorem depth_to : ∀ n, DepthTo n
  | 0 => fun _ h => absurd h (Nat.not_lt_zero _)
  | n + 1 => depth_step n (depth_to n)
theorem depthOf_any (x : Ex) (hx6 : x.size ≤ 1000000) (b o N : Nat) (w : World) (hb : b < N) (h : x.At w N b o) :
    Calls Tryz.prog 38 #[.pointer (some ⟨b, o, none⟩)] w fun e w' => e = .returned (.int .i64 x.depth) ∧ w = w' :=
  depth_to _ x (Nat.lt_succ_self _) hx6 b o N w hb h
/-- an expression in a block of its own -/
theorem Ex.At.new {w : World} {N : Nat} {x : Ex} {p : Option Addr} {c : Nat} (h : x.Ok w N p) (hN : N ≤ w.heap.size) :
    x.At (w.alloc (.cells #[.int .i64 x.op, .int .u64 (x.word : Int), .string (str x.name), .slice p x.args.len c] 26)) (w.heap.size + 1) w.heap.size 0 := by
  have hB : Below N w (w.alloc (.cells #[.int .i64 x.op, .int .u64 (x.word : Int), .string (str x.name), .slice p x.args.len c] 26)) := (Below.refl _ _).alloc hN _
  have h2 := h.1.later hB (show N ≤ w.heap.size + 1 by omega)
  have h3 := h.2
  obtain ⟨op, wd, nm, ar⟩ := x
  simp only [Ex.args, Ex.op, Ex.word, Ex.name] at h2 h3 ⊢
  exact ⟨⟨by simp [go_sem], by simp [go_sem], by simp [go_sem], h3⟩, ⟨p, c, by simp [go_sem], h2⟩⟩

set_option maxHeartbeats 1600000 in
theorem depth_any (x : Ex) (hx6 : x.size ≤ 1000000) (p : Option Addr) (c N : Nat) (w : World) (h : x.Ok w N p) (hN : N ≤ w.heap.size) :
    Calls Tryz.prog 11 #[x.val p c] w fun e w' => e = .returned (.int .i64 x.depth) ∧ Below w.heap.size w w' := by
  have HD := Lib.hid (depthOf_any x hx6 w.heap.size 0 (w.heap.size + 1) _ (Nat.lt_succ_self _) (Ex.At.new (c := c) h hN))
  unfold Ex.val
  clear h
  go_enter Tryz.func11, Tryz.ntmps11
  go_wp2_with fail
  refine HD.out.mono ?_
  rintro e w' ⟨rfl, rfl⟩
  go_wp2_with fail
  go_ret
  exact ⟨rfl, (Below.refl _ _).alloc (Nat.le_refl _) _⟩
end Go.Proofs.YtlhbledakddbbaaGreatDoor
/- Statements, functions and programs as they lie in memory. -/
namespace Go.Proofs.YtlhbledakddbbaaGreatDoor
open Go.RowKit

/-- a row of things of k cells each -/
def Row {α : Type} (A : α → Nat → Nat → Prop) (k : Nat) : List α → Nat → Nat → Prop
  | [], _, _ => True
  | x :: r, b, o => A x b o ∧ Row A k r b (o + k)
theorem Row.imp {α : Type} {A B : α → Nat → Nat → Prop} {k b : Nat} (h : ∀ x o, A x b o → B x b o) : ∀ (l : List α) (o : Nat), Row A k l b o → Row B k l b o
  | [], _, _ => trivial
  | x :: r, o, H => ⟨h x o H.1, Row.imp h r (o + k) H.2⟩
theorem Row.drop {α : Type} {A : α → Nat → Nat → Prop} {k b : Nat} : ∀ (l r : List α) (o : Nat), Row A k (l ++ r) b o → Row A k r b (o + l.length * k)
  | [], _, o, h => by simpa using h
  | x :: l, r, o, h => by
    have := Row.drop l r (o + k) h.2
    rw [show o + (x :: l).length * k = o + k + l.length * k by simp only [List.length_cons, Nat.add_mul]; omega]
    exact this
theorem Row.get {α : Type} {A : α → Nat → Nat → Prop} {k b o i : Nat} {l : List α} {x : α} (h : Row A k l b o) (hi : l[i]? = some x) : A x b (o + i * k) := by
  induction l generalizing o i with
  | nil => simp at hi
  | cons y r ih =>
    cases i with
    | zero => simp at hi; subst hi; simpa using h.1
    | succ i =>
      have := ih (o := o + k) (i := i) h.2 (by simpa using hi)
      rw [show o + (i + 1) * k = o + k + i * k by rw [Nat.add_mul]; omega]; exact this
theorem Row.of {α : Type} {A : α → Nat → Nat → Prop} {k b : Nat} : ∀ (n o : Nat), (∀ i, i < n → ∃ x, A x b (o + i * k)) → ∃ l : List α, l.length = n ∧ Row A k l b o
  | 0, _, _ => ⟨[], rfl, trivial⟩
  | n + 1, o, h => by
    obtain ⟨x, hx⟩ := h 0 (Nat.succ_pos _)
    obtain ⟨l, hl, hr⟩ := Row.of (A := A) n (o + k) fun i hi => by
      obtain ⟨y, hy⟩ := h (i + 1) (by omega)
      exact ⟨y, by rw [show o + k + i * k = o + (i + 1) * k by rw [Nat.add_mul]; omega]; exact hy⟩
    exact ⟨x :: l, by simp [hl], by simpa using hx, hr⟩
/-- a slice of such -/
def RowIn {α : Type} (N : Nat) (A : α → Nat → Nat → Prop) (k : Nat) (l : List α) (p : Option Addr) : Prop := Sl N p l.length (Row A k l)
theorem RowIn.imp {α : Type} {N M : Nat} {A B : α → Nat → Nat → Prop} {k : Nat} {l : List α} {p : Option Addr} (h : RowIn N A k l p) (hN : N ≤ M) (H : ∀ x b o, b < N → A x b o → B x b o) : RowIn M B k l p :=
  Sl.imp h hN fun b o hb => Row.imp (fun x o => H x b o hb) l o

/-- a text's cell -/
def StrAt (w : World) (x : List UInt8) (b o : Nat) : Prop := w.cell? ⟨b, o, none⟩ = some (.string (str x))
structure Rgn where
  (name : List UInt8) (addr size : Int) (secret : Bool)
structure Vr where
  (name : List UInt8) (kind size : Int) (secret : Bool)
def Rgn.At (w : World) (x : Rgn) (b o : Nat) : Prop :=
  w.cell? ⟨b, o, none⟩ = some (.string (str x.name)) ∧ w.cell? ⟨b, o + 1, none⟩ = some (.int .i64 x.addr) ∧ w.cell? ⟨b, o + 2, none⟩ = some (.int .i64 x.size) ∧ w.cell? ⟨b, o + 3, none⟩ = some (.bool x.secret)
def Vr.At (w : World) (x : Vr) (b o : Nat) : Prop :=
  w.cell? ⟨b, o, none⟩ = some (.string (str x.name)) ∧ w.cell? ⟨b, o + 1, none⟩ = some (.int .i64 x.kind) ∧ w.cell? ⟨b, o + 2, none⟩ = some (.int .i64 x.size) ∧ w.cell? ⟨b, o + 3, none⟩ = some (.bool x.secret)

mutual
inductive St where
  | mk (kind : Int) (name : List UInt8) (names : List (List UInt8)) (e a : Ex) (args : Exs) (low high : Nat) (body els : Sts)
inductive Sts where
  | nil
  | cons (x : St) (rest : Sts)
end
def Sts.len : Sts → Nat
  | .nil => 0
  | .cons _ r => r.len + 1
mutual
def St.size : St → Nat
  | .mk _ _ _ _ _ _ _ _ b e => b.size + e.size + 1
def Sts.size : Sts → Nat
  | .nil => 0
  | .cons x r => x.size + r.size + 1
end
def St.kind : St → Int | .mk k _ _ _ _ _ _ _ _ _ => k
def St.name : St → List UInt8 | .mk _ n _ _ _ _ _ _ _ _ => n
def St.names : St → List (List UInt8) | .mk _ _ n _ _ _ _ _ _ _ => n
def St.e : St → Ex | .mk _ _ _ e _ _ _ _ _ _ => e
def St.a : St → Ex | .mk _ _ _ _ a _ _ _ _ _ => a
def St.args : St → Exs | .mk _ _ _ _ _ g _ _ _ _ => g
def St.low : St → Nat | .mk _ _ _ _ _ _ l _ _ _ => l
def St.high : St → Nat | .mk _ _ _ _ _ _ _ h _ _ => h
def St.body : St → Sts | .mk _ _ _ _ _ _ _ _ b _ => b
def St.els : St → Sts | .mk _ _ _ _ _ _ _ _ _ e => e
mutual
def St.At (w : World) (N : Nat) : St → Nat → Nat → Prop
  | .mk kd nm ns e a as' lo hi bd el, b, o =>
    (w.cell? ⟨b, o, none⟩ = some (.int .i64 kd) ∧ w.cell? ⟨b, o + 1, none⟩ = some (.string (str nm)) ∧ w.cell? ⟨b, o + 12, none⟩ = some (.int .u64 (lo : Int)) ∧ w.cell? ⟨b, o + 13, none⟩ = some (.int .u64 (hi : Int)) ∧ lo < 18446744073709551616 ∧ hi < 18446744073709551616) ∧
    (∃ p c, w.cell? ⟨b, o + 2, none⟩ = some (.slice p ns.length c) ∧ (ns.length ≤ c ∧ RowIn N (StrAt w) 1 ns p)) ∧
    Ex.At w N e b (o + 3) ∧ Ex.At w N a b (o + 7) ∧
    (∃ p c, w.cell? ⟨b, o + 11, none⟩ = some (.slice p as'.len c) ∧ as'.In w N p) ∧
    (∃ p c, w.cell? ⟨b, o + 14, none⟩ = some (.slice p bd.len c) ∧ Sl N p bd.len (Sts.At w N bd)) ∧
    (∃ p c, w.cell? ⟨b, o + 15, none⟩ = some (.slice p el.len c) ∧ Sl N p el.len (Sts.At w N el))
def Sts.At (w : World) (N : Nat) : Sts → Nat → Nat → Prop
  | .nil, _, _ => True
  | .cons x r, b, o => St.At w N x b o ∧ Sts.At w N r b (o + 16)
end
def Sts.In (w : World) (N : Nat) (l : Sts) (p : Option Addr) : Prop := Sl N p l.len (Sts.At w N l)
theorem StrAt.later {w w' : World} {N : Nat} (hw : Below N w w') (x : List UInt8) (b o : Nat) (hb : b < N) (h : StrAt w x b o) : StrAt w' x b o := (hw.cell hb).trans h
theorem Rgn.At.later {w w' : World} {N : Nat} (hw : Below N w w') (x : Rgn) (b o : Nat) (hb : b < N) (h : x.At w b o) : x.At w' b o :=
  ⟨(hw.cell hb).trans h.1, (hw.cell hb).trans h.2.1, (hw.cell hb).trans h.2.2.1, (hw.cell hb).trans h.2.2.2⟩
theorem Vr.At.later {w w' : World} {N : Nat} (hw : Below N w w') (x : Vr) (b o : Nat) (hb : b < N) (h : x.At w b o) : x.At w' b o :=
  ⟨(hw.cell hb).trans h.1, (hw.cell hb).trans h.2.1, (hw.cell hb).trans h.2.2.1, (hw.cell hb).trans h.2.2.2⟩
mutual
theorem St.At.later {w w' : World} {N M : Nat} (hw : Below N w w') (hM : N ≤ M) : ∀ (x : St) (b o : Nat), b < N → St.At w N x b o → St.At w' M x b o
  | .mk kd nm ns e a as' lo hi bd el, b, o, hb, h => by
    obtain ⟨⟨h0, h1, h2, h3, h4, h5⟩, ⟨p1, c1, g1, s1⟩, he, ha, ⟨p2, c2, g2, s2⟩, ⟨p3, c3, g3, s3⟩, ⟨p4, c4, g4, s4⟩⟩ := h
    exact ⟨⟨(hw.cell hb).trans h0, (hw.cell hb).trans h1, (hw.cell hb).trans h2, (hw.cell hb).trans h3, h4, h5⟩,
      ⟨p1, c1, (hw.cell hb).trans g1, s1.1, s1.2.imp hM (StrAt.later hw)⟩, Ex.At.later hw hM e b _ hb he, Ex.At.later hw hM a b _ hb ha,
      ⟨p2, c2, (hw.cell hb).trans g2, s2.later hw hM⟩,
      ⟨p3, c3, (hw.cell hb).trans g3, s3.imp hM fun b' o' hb' ha' => Sts.At.later hw hM bd b' o' hb' ha'⟩,
      ⟨p4, c4, (hw.cell hb).trans g4, s4.imp hM fun b' o' hb' ha' => Sts.At.later hw hM el b' o' hb' ha'⟩⟩
theorem Sts.At.later {w w' : World} {N M : Nat} (hw : Below N w w') (hM : N ≤ M) : ∀ (l : Sts) (b o : Nat), b < N → Sts.At w N l b o → Sts.At w' M l b o
  | .nil, _, _, _, _ => trivial
  | .cons x r, b, o, hb, h => ⟨St.At.later hw hM x b o hb h.1, Sts.At.later hw hM r b (o + 16) hb h.2⟩
end
theorem Sts.In.later {w w' : World} {N M : Nat} {l : Sts} {p : Option Addr} (h : l.In w N p) (hw : Below N w w') (hM : N ≤ M) : l.In w' M p :=
  Sl.imp h hM fun b o hb ha => Sts.At.later hw hM l b o hb ha

/-- where a statement's slices lie -/
structure StP where
  (pn pe pa pg pb pl : Option Addr) (cn ce ca cg cb cl : Nat)
def St.Ok (w : World) (N : Nat) (x : St) (s : StP) : Prop :=
  (x.names.length ≤ s.cn ∧ RowIn N (StrAt w) 1 x.names s.pn) ∧ x.e.Ok w N s.pe ∧ x.a.Ok w N s.pa ∧ x.args.In w N s.pg ∧ x.body.In w N s.pb ∧ x.els.In w N s.pl ∧ x.low < 18446744073709551616 ∧ x.high < 18446744073709551616
theorem St.Ok.later {w w' : World} {N M : Nat} {x : St} {s : StP} (h : x.Ok w N s) (hw : Below N w w') (hM : N ≤ M) : x.Ok w' M s :=
  ⟨⟨h.1.1, h.1.2.imp hM (StrAt.later hw)⟩, h.2.1.later hw hM, h.2.2.1.later hw hM, h.2.2.2.1.later hw hM, h.2.2.2.2.1.later hw hM, h.2.2.2.2.2.1.later hw hM, h.2.2.2.2.2.2⟩
/-- its cells -/
def St.cells (x : St) (s : StP) : Array Value :=
  #[.int .i64 x.kind, .string (str x.name), .slice s.pn x.names.length s.cn, .int .i64 x.e.op, .int .u64 (x.e.word : Int), .string (str x.e.name), .slice s.pe x.e.args.len s.ce, .int .i64 x.a.op, .int .u64 (x.a.word : Int), .string (str x.a.name), .slice s.pa x.a.args.len s.ca,
    .slice s.pg x.args.len s.cg, .int .u64 (x.low : Int), .int .u64 (x.high : Int), .slice s.pb x.body.len s.cb, .slice s.pl x.els.len s.cl]
/-- a statement as a value -/
def St.val (x : St) (s : StP) : Value := .agg (x.cells s)
theorem Ex.At.open' {w : World} {N : Nat} {x : Ex} {b o : Nat} (h : x.At w N b o) : ∃ p c, w.cell? ⟨b, o, none⟩ = some (.int .i64 x.op) ∧ w.cell? ⟨b, o + 1, none⟩ = some (.int .u64 (x.word : Int)) ∧ w.cell? ⟨b, o + 2, none⟩ = some (.string (str x.name)) ∧ w.cell? ⟨b, o + 3, none⟩ = some (.slice p x.args.len c) ∧ x.Ok w N p := by
  obtain ⟨op, wd, nm, ar⟩ := x
  obtain ⟨⟨h0, h1, h2, h3⟩, ⟨p, c, h4, s4⟩⟩ := h
  exact ⟨p, c, h0, h1, h2, h4, s4, h3⟩
/-- a statement that lies in a row: its cells, and that it is one -/
theorem St.At.open {w : World} {N : Nat} {x : St} {b o : Nat} (h : x.At w N b o) : ∃ s : StP, (∀ j v, (x.cells s)[j]? = some v → w.cell? ⟨b, o + j, none⟩ = some v) ∧ x.Ok w N s := by
  obtain ⟨kd, nm, ns, e, a, as', lo, hi, bd, el⟩ := x
  obtain ⟨⟨h0, h1, h2, h3, h4, h5⟩, ⟨p1, c1, g1, s1⟩, he, ha, ⟨p2, c2, g2, s2⟩, ⟨p3, c3, g3, s3⟩, ⟨p4, c4, g4, s4⟩⟩ := h
  obtain ⟨pe, ce, e0, e1, e2, e3, oke⟩ := he.open'
  obtain ⟨pa, ca, a0, a1, a2, a3, oka⟩ := ha.open'
  refine ⟨⟨p1, pe, pa, p2, p3, p4, c1, ce, ca, c2, c3, c4⟩, ?_, s1, oke, oka, s2, s3, s4, h4, h5⟩
  intro j v hv
  rcases j with _ | _ | _ | _ | _ | _ | _ | _ | _ | _ | _ | _ | _ | _ | _ | _ | j
  all_goals first | (cases hv; assumption) | (simp [St.cells] at hv)

structure Fnc where
  (name : List UInt8) (params vars : List Vr) (rets : List (List UInt8)) (body : Sts)
def Fnc.At (w : World) (N : Nat) (x : Fnc) (b o : Nat) : Prop :=
  w.cell? ⟨b, o, none⟩ = some (.string (str x.name)) ∧
  (∃ p c, w.cell? ⟨b, o + 1, none⟩ = some (.slice p x.params.length c) ∧ RowIn N (Vr.At w) 4 x.params p) ∧
  (∃ p c, w.cell? ⟨b, o + 2, none⟩ = some (.slice p x.vars.length c) ∧ RowIn N (Vr.At w) 4 x.vars p) ∧
  (∃ p c, w.cell? ⟨b, o + 3, none⟩ = some (.slice p x.rets.length c) ∧ (x.rets.length ≤ c ∧ RowIn N (StrAt w) 1 x.rets p)) ∧
  (∃ p c, w.cell? ⟨b, o + 4, none⟩ = some (.slice p x.body.len c) ∧ x.body.In w N p)
structure FncP where
  (pp pv pr pb : Option Addr) (cp cv cr cb : Nat)
def Fnc.Ok (w : World) (N : Nat) (x : Fnc) (s : FncP) : Prop :=
  RowIn N (Vr.At w) 4 x.params s.pp ∧ RowIn N (Vr.At w) 4 x.vars s.pv ∧ (x.rets.length ≤ s.cr ∧ RowIn N (StrAt w) 1 x.rets s.pr) ∧ x.body.In w N s.pb
theorem Fnc.Ok.later {w w' : World} {N M : Nat} {x : Fnc} {s : FncP} (h : x.Ok w N s) (hw : Below N w w') (hM : N ≤ M) : x.Ok w' M s :=
  ⟨h.1.imp hM (Vr.At.later hw), h.2.1.imp hM (Vr.At.later hw), ⟨h.2.2.1.1, h.2.2.1.2.imp hM (StrAt.later hw)⟩, h.2.2.2.later hw hM⟩
def Fnc.cells (x : Fnc) (s : FncP) : Array Value :=
  #[.string (str x.name), .slice s.pp x.params.length s.cp, .slice s.pv x.vars.length s.cv, .slice s.pr x.rets.length s.cr, .slice s.pb x.body.len s.cb]
def Fnc.val (x : Fnc) (s : FncP) : Value := .agg (x.cells s)
theorem Fnc.At.later {w w' : World} {N M : Nat} (hw : Below N w w') (hM : N ≤ M) (x : Fnc) (b o : Nat) (hb : b < N) (h : x.At w N b o) : x.At w' M b o := by
  obtain ⟨h0, ⟨p1, c1, g1, s1⟩, ⟨p2, c2, g2, s2⟩, ⟨p3, c3, g3, s3⟩, ⟨p4, c4, g4, s4⟩⟩ := h
  exact ⟨(hw.cell hb).trans h0, ⟨p1, c1, (hw.cell hb).trans g1, s1.imp hM (Vr.At.later hw)⟩, ⟨p2, c2, (hw.cell hb).trans g2, s2.imp hM (Vr.At.later hw)⟩, ⟨p3, c3, (hw.cell hb).trans g3, s3.1, s3.2.imp hM (StrAt.later hw)⟩, ⟨p4, c4, (hw.cell hb).trans g4, s4.later hw hM⟩⟩
theorem Fnc.At.open {w : World} {N : Nat} {x : Fnc} {b o : Nat} (h : x.At w N b o) : ∃ s : FncP, (∀ j v, (x.cells s)[j]? = some v → w.cell? ⟨b, o + j, none⟩ = some v) ∧ x.Ok w N s := by
  obtain ⟨h0, ⟨p1, c1, g1, s1⟩, ⟨p2, c2, g2, s2⟩, ⟨p3, c3, g3, s3⟩, ⟨p4, c4, g4, s4⟩⟩ := h
  refine ⟨⟨p1, p2, p3, p4, c1, c2, c3, c4⟩, ?_, s1, s2, s3, s4⟩
  intro j v hv
  rcases j with _ | _ | _ | _ | _ | j
  all_goals first | (cases hv; assumption) | (simp [Fnc.cells] at hv)
structure Prg where
  (regs : List Rgn) (fns : List Fnc)
def Prg.Ok (w : World) (N : Nat) (x : Prg) (p q : Option Addr) : Prop := RowIn N (Rgn.At w) 4 x.regs p ∧ RowIn N (Fnc.At w N) 5 x.fns q
theorem Prg.Ok.later {w w' : World} {N M : Nat} {x : Prg} {p q : Option Addr} (h : x.Ok w N p q) (hw : Below N w w') (hM : N ≤ M) : x.Ok w' M p q :=
  ⟨h.1.imp hM (Rgn.At.later hw), h.2.imp hM (Fnc.At.later hw hM)⟩
def Prg.val (x : Prg) (p q : Option Addr) (c d : Nat) : Value := .agg #[.slice p x.regs.length c, .slice q x.fns.length d]
end Go.Proofs.YtlhbledakddbbaaGreatDoor
/- Expressions, statements, functions and programs that come in. -/
namespace Go.Proofs.YtlhbledakddbbaaGreatDoor
open Go.ChangeShapes Go.WideShapes Go.ChangeAt Go.RowKit

theorem add_none (b o i : Nat) : (⟨b, o, none⟩ : Addr).add i = ⟨b, o + i, none⟩ := by unfold Addr.add; split <;> simp_all
section
variable {H : Type} {enc : TypeId × Value → H} {w : World}
/-- each piece of it takes no more than there is room for -/
def Wide (t : TypeId) (d : DataW H) : Prop := ∀ n ∈ d.weights Tryz.prog t, n ≤ reachBytes
theorem wide_all {e : TypeId} : ∀ {l : List (DataW H)}, (∀ n ∈ DataW.weightsAll Tryz.prog e l, n ≤ reachBytes) → ∀ d ∈ l, Wide e d
  | [], _, _, h => by cases h
  | x :: r, H, d, h => by
    simp only [DataW.weightsAll, List.mem_append] at H
    rcases List.mem_cons.1 h with rfl | h
    · exact fun n hn => H n (.inl hn)
    · exact wide_all (fun n hn => H n (.inr hn)) d h
theorem wide_each : ∀ {ts : List TypeId} {l : List (DataW H)}, (∀ n ∈ DataW.weightsEach Tryz.prog ts l, n ≤ reachBytes) → ∀ (i : Nat) (t : TypeId) (d : DataW H), ts[i]? = some t → l[i]? = some d → Wide t d
  | [], _, _, i, t, d, h, _ => by simp at h
  | _ :: _, [], _, i, t, d, _, h => by simp at h
  | t' :: ts, x :: r, H, i, t, d, h, g => by
    simp only [DataW.weightsEach, List.mem_append] at H
    cases i with
    | zero => simp at h g; subst h; subst g; exact fun n hn => H n (.inl hn)
    | succ i => exact wide_each (fun n hn => H n (.inr hn)) i t d (by simpa using h) (by simpa using g)
/-- a slice: its elements' cells and readings -/
theorem slice_opn {t e : TypeId} {fuel k : Nat} {cs : List Value} {x : DataW H × List MemPlace} (hk : Tryz.prog.cellsOf e = k) (hk0 : 0 < k) (hbe : 1 ≤ Tryz.prog.bytesOf e) (ht : Tryz.prog.underlying t = some (.slice e)) (h : DataW.trod enc Tryz.prog w 0 (fun _ => true) true fuel t cs = some x) (hw : Wide t x.1) :
    ∃ (n : Nat) (p : Option Addr) (len c : Nat), fuel = n + 1 ∧ cs = [.slice p len c] ∧ len ≤ 140737488355328 ∧
      (len = 0 ∨ ∃ b off, p = some ⟨b, off, none⟩ ∧ b < w.heap.size ∧ ∀ i, i < len → ∃ cs' y, cs'.length = k ∧ (∀ j, j < k → w.cell? ⟨b, off + i * k + j, none⟩ = cs'[j]?) ∧ DataW.trod enc Tryz.prog w 0 (fun _ => true) true n e cs' = some y ∧ Wide e y.1) := by
  obtain ⟨n, rfl⟩ : ∃ n, fuel = n + 1 := by cases fuel with | zero => simp [DataW.trod] at h | succ n => exact ⟨n, rfl⟩
  rcases DataW.trod_slice ht h with ⟨rfl, rfl⟩ | ⟨a, len, cap, elems, rest, n', hn, rfl, rfl, _, _, _, hlen, hel, _, _⟩
  · exact ⟨n, none, 0, 0, rfl, rfl, by omega, .inl rfl⟩
  · obtain rfl : n = n' := by omega
    rw [hk] at hel
    unfold Wide at hw
    simp only [DataW.weights, ht, List.mem_cons, List.mem_append] at hw
    have h1 := hw _ (.inl rfl)
    simp only [List.length_map] at h1
    have h2 : elems.length + rest.length ≤ (elems.length + rest.length) * Tryz.prog.bytesOf e := Nat.le_mul_of_pos_right _ hbe
    have h3 : ∀ d ∈ elems.map (·.1), Wide e d := wide_all fun n hn => hw n (.inr (.inl hn))
    unfold reachBytes at h1
    refine ⟨n, some a, len, cap, rfl, rfl, by omega, ?_⟩
    by_cases h0 : len = 0
    · exact .inl h0
    · right
      have key : ∀ i, i < len → ∃ cs' y, cs'.length = k ∧ (∀ j, j < k → w.cell? ((a.add (i * k)).add j) = cs'[j]?) ∧ DataW.trod enc Tryz.prog w 0 (fun _ => true) true n e cs' = some y ∧ Wide e y.1 := by
        intro i hi
        have := hel i hi
        rw [List.getElem?_eq_getElem (by omega)] at this
        obtain ⟨cs', h1, h2⟩ := Option.bind_eq_some_iff.1 this
        obtain ⟨_, hl, hc⟩ := World.cells?_some h1
        exact ⟨cs', _, hl, hc, h2, h3 _ (List.mem_map.2 ⟨_, List.getElem_mem (by omega), rfl⟩)⟩
      obtain ⟨cs0, y0, hl0, hc0, _⟩ := key 0 (by omega)
      have hcell := hc0 0 hk0
      rw [List.getElem?_eq_getElem (by omega)] at hcell
      obtain ⟨b, off, spot⟩ := a
      have hspot : spot = none := by simpa [Addr.add] using World.cell?_spot hcell
      subst hspot
      refine ⟨b, off, rfl, by simpa [Addr.add] using World.block_lt_of_cell? _ _ hcell, fun i hi => ?_⟩
      obtain ⟨cs', y, hl, hc, hr, hy⟩ := key i hi
      exact ⟨cs', y, hl, fun j hj => by have h1 := hc j hj; rw [add_none, add_none] at h1; exact h1, hr, hy⟩
/-- a struct: its fields' readings -/
theorem struct_opn {t : TypeId} {fs : Array Field} {fuel : Nat} {cs : List Value} {x : DataW H × List MemPlace} (ht : Tryz.prog.underlying t = some (.struct fs)) (h : DataW.trod enc Tryz.prog w 0 (fun _ => true) true fuel t cs = some x) (hw : Wide t x.1) :
    ∃ n, fuel = n + 1 ∧ cs.length = Tryz.prog.cellsOf t ∧ ∀ (i : Nat) (f : Field), fs[i]? = some f → ∃ y, DataW.trod enc Tryz.prog w 0 (fun _ => true) true n f.type ((cs.drop f.offset).take (Tryz.prog.cellsOf f.type)) = some y ∧ Wide f.type y.1 := by
  obtain ⟨xs, n, rfl, rfl, hl, hx, hf⟩ := DataW.trod_struct ht h
  refine ⟨n, rfl, hl, fun i f hi => ?_⟩
  have hlt : i < xs.length := by rw [hx]; exact (Array.getElem?_eq_some_iff.1 hi).1
  have h1 := hf i f hi
  rw [List.getElem?_eq_getElem hlt] at h1
  refine ⟨_, h1, ?_⟩
  unfold Wide at hw
  simp only [DataW.weights, ht] at hw
  refine wide_each hw i f.type _ ?_ ?_
  · rw [List.getElem?_map, Array.getElem?_toList, hi]; rfl
  · rw [List.getElem?_map, List.getElem?_eq_getElem hlt]; rfl

theorem opn_int {t : TypeId} {n : Nat} {cs : List Value} {y : DataW H × List MemPlace} (ht : Tryz.prog.underlying t = some (.int .i64)) (h : DataW.trod enc Tryz.prog w 0 (fun _ => true) true n t cs = some y) : ∃ z : Int, cs = [.int .i64 z] ∧ -9223372036854775808 ≤ z ∧ z ≤ 9223372036854775807 := by
  obtain ⟨z, e, _, hz⟩ := DataW.trod_int ht h
  exact ⟨z, e, by simp [Lit.wf, IntKind.bits, IntKind.signed, IntKind.max, IntKind.min] at hz; omega⟩
theorem opn_u64 {t : TypeId} {n : Nat} {cs : List Value} {y : DataW H × List MemPlace} (ht : Tryz.prog.underlying t = some (.int .u64)) (h : DataW.trod enc Tryz.prog w 0 (fun _ => true) true n t cs = some y) : ∃ z : Nat, cs = [.int .u64 (z : Int)] ∧ z < 18446744073709551616 := by
  obtain ⟨z, e, _, hz⟩ := DataW.trod_int ht h
  have hb : 0 ≤ z ∧ z < 18446744073709551616 := by simp [Lit.wf, IntKind.bits, IntKind.signed, IntKind.max, IntKind.min] at hz; omega
  exact ⟨z.toNat, by rw [e, show ((z.toNat : Nat) : Int) = z by omega], by omega⟩
theorem opn_str {t : TypeId} {n : Nat} {cs : List Value} {y : DataW H × List MemPlace} (ht : Tryz.prog.underlying t = some .string) (h : DataW.trod enc Tryz.prog w 0 (fun _ => true) true n t cs = some y) : ∃ l : List UInt8, cs = [.string (str l)] := by
  obtain ⟨z, e, _, _⟩ := DataW.trod_string ht h
  exact ⟨z.data.toList, by rw [e, str_eta]⟩
theorem opn_bool {t : TypeId} {n : Nat} {cs : List Value} {y : DataW H × List MemPlace} (ht : Tryz.prog.underlying t = some .bool) (h : DataW.trod enc Tryz.prog w 0 (fun _ => true) true n t cs = some y) : ∃ z : Bool, cs = [.bool z] := by
  obtain ⟨z, e, _⟩ := DataW.trod_bool ht h
  exact ⟨z, e⟩
theorem four {α : Type} {cs : List α} (h : cs.length = 4) : ∃ a b c d, cs = [a, b, c, d] := by
  match cs, h with
  | [a, b, c, d], _ => exact ⟨a, b, c, d, rfl⟩
theorem Exs.of {B b : Nat} : ∀ (n o : Nat), (∀ i, i < n → ∃ x : Ex, x.At w B b (o + i * 4)) → ∃ l : Exs, l.len = n ∧ l.At w B b o
  | 0, _, _ => ⟨.nil, rfl, trivial⟩
  | n + 1, o, h => by
    obtain ⟨x, hx⟩ := h 0 (Nat.succ_pos _)
    obtain ⟨l, hl, hr⟩ := Exs.of n (o + 4) fun i hi => by
      obtain ⟨y, hy⟩ := h (i + 1) (by omega)
      exact ⟨y, by rw [show o + 4 + i * 4 = o + (i + 1) * 4 by omega]; exact hy⟩
    exact ⟨.cons x l, by simp [Exs.len, hl], by simpa using hx, hr⟩
theorem Sts.of {B b : Nat} : ∀ (n o : Nat), (∀ i, i < n → ∃ x : St, x.At w B b (o + i * 16)) → ∃ l : Sts, l.len = n ∧ l.At w B b o
  | 0, _, _ => ⟨.nil, rfl, trivial⟩
  | n + 1, o, h => by
    obtain ⟨x, hx⟩ := h 0 (Nat.succ_pos _)
    obtain ⟨l, hl, hr⟩ := Sts.of n (o + 16) fun i hi => by
      obtain ⟨y, hy⟩ := h (i + 1) (by omega)
      exact ⟨y, by rw [show o + 16 + i * 16 = o + (i + 1) * 16 by omega]; exact hy⟩
    exact ⟨.cons x l, by simp [Sts.len, hl], by simpa using hx, hr⟩
theorem Ex.At.mk' {B b o : Nat} {x : Ex} {p : Option Addr} {c : Nat} (h0 : w.cell? ⟨b, o, none⟩ = some (.int .i64 x.op)) (h1 : w.cell? ⟨b, o + 1, none⟩ = some (.int .u64 (x.word : Int))) (h2 : w.cell? ⟨b, o + 2, none⟩ = some (.string (str x.name))) (h3 : w.cell? ⟨b, o + 3, none⟩ = some (.slice p x.args.len c)) (h : x.Ok w B p) : x.At w B b o := by
  obtain ⟨op, wd, nm, ar⟩ := x
  exact ⟨⟨h0, h1, h2, h.2⟩, ⟨p, c, h3, h.1⟩⟩
theorem cellsEx : Tryz.prog.cellsOf 26 = 4 := by kernel_rfl
theorem cellsSt : Tryz.prog.cellsOf 54 = 16 := by kernel_rfl
theorem cOne (t : TypeId) (h : t = 9 ∨ t = 3 ∨ t = 23 ∨ t = 4 ∨ t = 22 ∨ t = 52 ∨ t = 78 ∨ t = 24 ∨ t = 47 ∨ t = 46 ∨ t = 45 ∨ t = 36 ∨ t = 37) : Tryz.prog.cellsOf t = 1 := by
  rcases h with rfl | rfl | rfl | rfl | rfl | rfl | rfl | rfl | rfl | rfl | rfl | rfl | rfl <;> kernel_rfl

theorem open_ex : ∀ (fuel : Nat) (cs : List Value) (x : DataW H × List MemPlace), DataW.trod enc Tryz.prog w 0 (fun _ => true) true fuel 26 cs = some x → Wide 26 x.1 →
    ∃ (e : Ex) (p : Option Addr) (c : Nat), cs = [.int .i64 e.op, .int .u64 (e.word : Int), .string (str e.name), .slice p e.args.len c] ∧ e.Ok w w.heap.size p := by
  intro fuel
  induction fuel using Nat.strongRecOn with
  | ind fuel ih =>
    intro cs x h hw
    obtain ⟨n, rfl, hl, hf⟩ := struct_opn Tryz.underlying26 h hw
    rw [cellsEx] at hl
    obtain ⟨a, b, c, d, rfl⟩ := four hl
    obtain ⟨y0, h0, w0⟩ := hf 0 _ rfl
    obtain ⟨y1, h1, w1⟩ := hf 1 _ rfl
    obtain ⟨y2, h2, w2⟩ := hf 2 _ rfl
    obtain ⟨y3, h3, w3⟩ := hf 3 _ rfl
    have h0' : DataW.trod enc Tryz.prog w 0 (fun _ => true) true n 22 (List.take (Tryz.prog.cellsOf 22) [a, b, c, d]) = some y0 := h0
    have h1' : DataW.trod enc Tryz.prog w 0 (fun _ => true) true n 23 (List.take (Tryz.prog.cellsOf 23) [b, c, d]) = some y1 := h1
    have h2' : DataW.trod enc Tryz.prog w 0 (fun _ => true) true n 9 (List.take (Tryz.prog.cellsOf 9) [c, d]) = some y2 := h2
    have h3' : DataW.trod enc Tryz.prog w 0 (fun _ => true) true n 24 (List.take (Tryz.prog.cellsOf 24) [d]) = some y3 := h3
    rw [cOne _ (by simp)] at h0' h1' h2' h3'
    obtain ⟨z0, e0, _, _⟩ := opn_int Tryz.underlying22 h0'
    obtain ⟨z1, e1, b1⟩ := opn_u64 Tryz.underlying23 h1'
    obtain ⟨z2, e2⟩ := opn_str Tryz.underlying9 h2'
    obtain ⟨m, p, len, cap, hn, e3, hlen, hel⟩ := slice_opn cellsEx (by decide) (by decide +kernel) Tryz.underlying24 h3' w3
    simp at e0 e1 e2 e3
    subst e0; subst e1; subst e2; subst e3
    obtain ⟨l, rfl, hin⟩ : ∃ l : Exs, l.len = len ∧ l.In w w.heap.size p := by
      rcases hel with h0 | ⟨bb, off, rfl, hbl, hel⟩
      · exact ⟨.nil, h0.symm, by simp [Exs.len], .inl rfl⟩
      · obtain ⟨l, hl, hr⟩ := Exs.of (w := w) (B := w.heap.size) (b := bb) len off fun i hi => by
          obtain ⟨cs', y, hl, hc, hr, hy⟩ := hel i hi
          obtain ⟨e, q, cq, rfl, hok⟩ := ih m (by omega) cs' y hr hy
          exact ⟨e, Ex.At.mk' (hc 0 (by decide)) (hc 1 (by decide)) (hc 2 (by decide)) (hc 3 (by decide)) hok⟩
        exact ⟨l, hl, by rw [hl]; exact hlen, .inr ⟨bb, off, rfl, hbl, hr⟩⟩
    exact ⟨.mk z0 z1 z2 l, p, cap, rfl, hin, b1⟩
theorem open_exs {fuel : Nat} {cs : List Value} {x : DataW H × List MemPlace} (h : DataW.trod enc Tryz.prog w 0 (fun _ => true) true fuel 24 cs = some x) (hw : Wide 24 x.1) :
    ∃ (l : Exs) (p : Option Addr) (c : Nat), cs = [.slice p l.len c] ∧ l.In w w.heap.size p := by
  obtain ⟨m, p, len, cap, hn, rfl, hlen, hel⟩ := slice_opn cellsEx (by decide) (by decide +kernel) Tryz.underlying24 h hw
  obtain ⟨l, rfl, hin⟩ : ∃ l : Exs, l.len = len ∧ l.In w w.heap.size p := by
    rcases hel with h0 | ⟨bb, off, rfl, hbl, hel⟩
    · exact ⟨.nil, h0.symm, by simp [Exs.len], .inl rfl⟩
    · obtain ⟨l, hl, hr⟩ := Exs.of (w := w) (B := w.heap.size) (b := bb) len off fun i hi => by
        obtain ⟨cs', y, hl, hc, hr, hy⟩ := hel i hi
        obtain ⟨e, q, cq, rfl, hok⟩ := open_ex m cs' y hr hy
        exact ⟨e, Ex.At.mk' (hc 0 (by decide)) (hc 1 (by decide)) (hc 2 (by decide)) (hc 3 (by decide)) hok⟩
      exact ⟨l, hl, by rw [hl]; exact hlen, .inr ⟨bb, off, rfl, hbl, hr⟩⟩
  exact ⟨l, p, cap, rfl, hin⟩
theorem open_strs {fuel : Nat} {cs : List Value} {x : DataW H × List MemPlace} (h : DataW.trod enc Tryz.prog w 0 (fun _ => true) true fuel 46 cs = some x) (hw : Wide 46 x.1) :
    ∃ (l : List (List UInt8)) (p : Option Addr) (c : Nat), cs = [.slice p l.length c] ∧ (l.length ≤ c ∧ RowIn w.heap.size (StrAt w) 1 l p) := by
  obtain ⟨m, p, len, cap, hn, rfl, hlen, hel⟩ := slice_opn (cOne 9 (by simp)) (by decide) (by decide +kernel) Tryz.underlying46 h hw
  have hcap : len ≤ cap := by
    rcases DataW.trod_slice Tryz.underlying46 h with H | H
    · obtain ⟨h1, _⟩ := H
      cases h1
      exact Nat.le_refl _
    · obtain ⟨a, len', cap', elems, rest, n', _, h1, _, _, h2, h3, _⟩ := H
      cases h1
      exact h2
  rcases hel with h0 | ⟨bb, off, rfl, hbl, hel⟩
  · exact ⟨[], p, cap, by rw [h0]; rfl, by simp, by simp, .inl rfl⟩
  · obtain ⟨l, rfl, hr⟩ := Row.of (A := StrAt w) (k := 1) (b := bb) len off fun i hi => by
      obtain ⟨cs', y, hl, hc, hr, hy⟩ := hel i hi
      obtain ⟨s, rfl⟩ := opn_str Tryz.underlying9 hr
      exact ⟨s, hc 0 (by decide)⟩
    exact ⟨l, _, cap, rfl, hcap, hlen, .inr ⟨bb, off, rfl, hbl, hr⟩⟩
end
end Go.Proofs.YtlhbledakddbbaaGreatDoor
/- Statements, functions and programs that come in. -/
namespace Go.Proofs.YtlhbledakddbbaaGreatDoor
open Go.ChangeShapes Go.WideShapes Go.ChangeAt Go.RowKit

section
variable {H : Type} {enc : TypeId × Value → H} {w : World}
theorem five {α : Type} {cs : List α} (h : cs.length = 5) : ∃ a b c d e, cs = [a, b, c, d, e] := by
  match cs, h with
  | [a, b, c, d, e], _ => exact ⟨a, b, c, d, e, rfl⟩
theorem twoL {α : Type} {cs : List α} (h : cs.length = 2) : ∃ a b, cs = [a, b] := by
  match cs, h with
  | [a, b], _ => exact ⟨a, b, rfl⟩
theorem sixteen {α : Type} {cs : List α} (h : cs.length = 16) : ∃ a b c d e f g h i j k l m n o p, cs = [a, b, c, d, e, f, g, h, i, j, k, l, m, n, o, p] := by
  match cs, h with
  | [a, b, c, d, e, f, g, h, i, j, k, l, m, n, o, p], _ => exact ⟨a, b, c, d, e, f, g, h, i, j, k, l, m, n, o, p, rfl⟩
theorem St.At.mk' {B b o : Nat} {x : St} {s : StP} (h : ∀ j v, (x.cells s)[j]? = some v → w.cell? ⟨b, o + j, none⟩ = some v) (hok : x.Ok w B s) : x.At w B b o := by
  obtain ⟨kd, nm, ns, e, a, as', lo, hi, bd, el⟩ := x
  obtain ⟨s1, he, ha, s2, s3, s4, h4, h5⟩ := hok
  exact ⟨⟨h 0 _ rfl, h 1 _ rfl, h 12 _ rfl, h 13 _ rfl, h4, h5⟩, ⟨_, _, h 2 _ rfl, s1⟩, Ex.At.mk' (h 3 _ rfl) (h 4 _ rfl) (h 5 _ rfl) (h 6 _ rfl) he, Ex.At.mk' (h 7 _ rfl) (h 8 _ rfl) (h 9 _ rfl) (h 10 _ rfl) ha,
    ⟨_, _, h 11 _ rfl, s2⟩, ⟨_, _, h 14 _ rfl, s3⟩, ⟨_, _, h 15 _ rfl, s4⟩⟩
theorem cells_at {b o k : Nat} {A : Array Value} (hA : A.size = k) (hc : ∀ j, j < k → w.cell? ⟨b, o + j, none⟩ = A.toList[j]?) : ∀ j v, A[j]? = some v → w.cell? ⟨b, o + j, none⟩ = some v := by
  intro j v hv
  have hj : j < A.size := (Array.getElem?_eq_some_iff.1 hv).1
  rw [hc j (by omega), Array.getElem?_toList, hv]
theorem open_st : ∀ (fuel : Nat) (cs : List Value) (x : DataW H × List MemPlace), DataW.trod enc Tryz.prog w 0 (fun _ => true) true fuel 54 cs = some x → Wide 54 x.1 →
    ∃ (e : St) (s : StP), cs = (e.cells s).toList ∧ e.Ok w w.heap.size s := by
  intro fuel
  induction fuel using Nat.strongRecOn with
  | ind fuel ih =>
    intro cs x h hw
    have key : ∀ (fl : Nat), fl < fuel → ∀ (cs : List Value) (x : DataW H × List MemPlace), DataW.trod enc Tryz.prog w 0 (fun _ => true) true fl 47 cs = some x → Wide 47 x.1 →
        ∃ (l : Sts) (p : Option Addr) (c : Nat), cs = [.slice p l.len c] ∧ l.In w w.heap.size p := by
      intro fl hfl cs x h hw
      obtain ⟨m, p, len, cap, hn, rfl, hlen, hel⟩ := slice_opn cellsSt (by decide) (by decide +kernel) Tryz.underlying47 h hw
      obtain ⟨l, rfl, hin⟩ : ∃ l : Sts, l.len = len ∧ l.In w w.heap.size p := by
        rcases hel with h0 | ⟨bb, off, rfl, hbl, hel⟩
        · exact ⟨.nil, h0.symm, by simp [Sts.len], .inl rfl⟩
        · obtain ⟨l, hl, hr⟩ := Sts.of (w := w) (B := w.heap.size) (b := bb) len off fun i hi => by
            obtain ⟨cs', y, hl, hc, hr, hy⟩ := hel i hi
            obtain ⟨e, s, rfl, hok⟩ := ih m (by omega) cs' y hr hy
            exact ⟨e, St.At.mk' (cells_at (A := e.cells s) rfl hc) hok⟩
          exact ⟨l, hl, by rw [hl]; exact hlen, .inr ⟨bb, off, rfl, hbl, hr⟩⟩
      exact ⟨l, p, cap, rfl, hin⟩
    obtain ⟨n, rfl, hl, hf⟩ := struct_opn Tryz.underlying54 h hw
    rw [cellsSt] at hl
    obtain ⟨c0, c1, c2, c3, c4, c5, c6, c7, c8, c9, c10, c11, c12, c13, c14, c15, rfl⟩ := sixteen hl
    obtain ⟨y0, h0, w0⟩ := hf 0 _ rfl
    obtain ⟨y1, h1, w1⟩ := hf 1 _ rfl
    obtain ⟨y2, h2, w2⟩ := hf 2 _ rfl
    obtain ⟨y3, h3, w3⟩ := hf 3 _ rfl
    obtain ⟨y4, h4, w4⟩ := hf 4 _ rfl
    obtain ⟨y5, h5, w5⟩ := hf 5 _ rfl
    obtain ⟨y6, h6, w6⟩ := hf 6 _ rfl
    obtain ⟨y7, h7, w7⟩ := hf 7 _ rfl
    obtain ⟨y8, h8, w8⟩ := hf 8 _ rfl
    obtain ⟨y9, h9, w9⟩ := hf 9 _ rfl
    clear hf
    replace h0 : DataW.trod enc Tryz.prog w 0 (fun _ => true) true n 52 (List.take (Tryz.prog.cellsOf 52) [c0, c1, c2, c3, c4, c5, c6, c7, c8, c9, c10, c11, c12, c13, c14, c15]) = some y0 := h0
    replace h1 : DataW.trod enc Tryz.prog w 0 (fun _ => true) true n 9 (List.take (Tryz.prog.cellsOf 9) [c1, c2, c3, c4, c5, c6, c7, c8, c9, c10, c11, c12, c13, c14, c15]) = some y1 := h1
    replace h2 : DataW.trod enc Tryz.prog w 0 (fun _ => true) true n 46 (List.take (Tryz.prog.cellsOf 46) [c2, c3, c4, c5, c6, c7, c8, c9, c10, c11, c12, c13, c14, c15]) = some y2 := h2
    replace h3 : DataW.trod enc Tryz.prog w 0 (fun _ => true) true n 26 (List.take (Tryz.prog.cellsOf 26) [c3, c4, c5, c6, c7, c8, c9, c10, c11, c12, c13, c14, c15]) = some y3 := h3
    replace h4 : DataW.trod enc Tryz.prog w 0 (fun _ => true) true n 26 (List.take (Tryz.prog.cellsOf 26) [c7, c8, c9, c10, c11, c12, c13, c14, c15]) = some y4 := h4
    replace h5 : DataW.trod enc Tryz.prog w 0 (fun _ => true) true n 24 (List.take (Tryz.prog.cellsOf 24) [c11, c12, c13, c14, c15]) = some y5 := h5
    replace h6 : DataW.trod enc Tryz.prog w 0 (fun _ => true) true n 23 (List.take (Tryz.prog.cellsOf 23) [c12, c13, c14, c15]) = some y6 := h6
    replace h7 : DataW.trod enc Tryz.prog w 0 (fun _ => true) true n 23 (List.take (Tryz.prog.cellsOf 23) [c13, c14, c15]) = some y7 := h7
    replace h8 : DataW.trod enc Tryz.prog w 0 (fun _ => true) true n 47 (List.take (Tryz.prog.cellsOf 47) [c14, c15]) = some y8 := h8
    replace h9 : DataW.trod enc Tryz.prog w 0 (fun _ => true) true n 47 (List.take (Tryz.prog.cellsOf 47) [c15]) = some y9 := h9
    rw [cOne _ (by simp)] at h0 h1 h2 h5 h6 h7 h8 h9
    rw [cellsEx] at h3 h4
    obtain ⟨z0, e0, _, _⟩ := opn_int Tryz.underlying52 h0
    obtain ⟨z1, e1⟩ := opn_str Tryz.underlying9 h1
    obtain ⟨ns, pn, cn, e2, hns⟩ := open_strs h2 w2
    obtain ⟨xe, pe, ce, e3, hxe⟩ := open_ex n _ _ h3 w3
    obtain ⟨xa, pa, ca, e4, hxa⟩ := open_ex n _ _ h4 w4
    obtain ⟨gs, pg, cg, e5, hgs⟩ := open_exs h5 w5
    obtain ⟨lo, e6, hlo⟩ := opn_u64 Tryz.underlying23 h6
    obtain ⟨hi, e7, hhi⟩ := opn_u64 Tryz.underlying23 h7
    obtain ⟨bd, pb, cb, e8, hbd⟩ := key n (by omega) _ _ h8 w8
    obtain ⟨el, pl, cl, e9, hel⟩ := key n (by omega) _ _ h9 w9
    simp at e0 e1 e2 e3 e4 e5 e6 e7 e8 e9
    obtain ⟨rfl, rfl, rfl, rfl⟩ := e3
    obtain ⟨rfl, rfl, rfl, rfl⟩ := e4
    subst e0; subst e1; subst e2; subst e5; subst e6; subst e7; subst e8; subst e9
    exact ⟨.mk z0 z1 ns xe xa gs lo hi bd el, ⟨pn, pe, pa, pg, pb, pl, cn, ce, ca, cg, cb, cl⟩, rfl, hns, hxe, hxa, hgs, hbd, hel, hlo, hhi⟩
theorem open_sts {fuel : Nat} {cs : List Value} {x : DataW H × List MemPlace} (h : DataW.trod enc Tryz.prog w 0 (fun _ => true) true fuel 47 cs = some x) (hw : Wide 47 x.1) :
    ∃ (l : Sts) (p : Option Addr) (c : Nat), cs = [.slice p l.len c] ∧ l.In w w.heap.size p := by
  obtain ⟨m, p, len, cap, hn, rfl, hlen, hel⟩ := slice_opn cellsSt (by decide) (by decide +kernel) Tryz.underlying47 h hw
  obtain ⟨l, rfl, hin⟩ : ∃ l : Sts, l.len = len ∧ l.In w w.heap.size p := by
    rcases hel with h0 | ⟨bb, off, rfl, hbl, hel⟩
    · exact ⟨.nil, h0.symm, by simp [Sts.len], .inl rfl⟩
    · obtain ⟨l, hl, hr⟩ := Sts.of (w := w) (B := w.heap.size) (b := bb) len off fun i hi => by
        obtain ⟨cs', y, hl, hc, hr, hy⟩ := hel i hi
        obtain ⟨e, s, rfl, hok⟩ := open_st m cs' y hr hy
        exact ⟨e, St.At.mk' (cells_at (A := e.cells s) rfl hc) hok⟩
      exact ⟨l, hl, by rw [hl]; exact hlen, .inr ⟨bb, off, rfl, hbl, hr⟩⟩
  exact ⟨l, p, cap, rfl, hin⟩
theorem Fnc.At.mk' {B b o : Nat} {x : Fnc} {s : FncP} (h : ∀ j v, (x.cells s)[j]? = some v → w.cell? ⟨b, o + j, none⟩ = some v) (hok : x.Ok w B s) : x.At w B b o :=
  ⟨h 0 _ rfl, ⟨_, _, h 1 _ rfl, hok.1⟩, ⟨_, _, h 2 _ rfl, hok.2.1⟩, ⟨_, _, h 3 _ rfl, hok.2.2.1⟩, ⟨_, _, h 4 _ rfl, hok.2.2.2⟩⟩
end
end Go.Proofs.YtlhbledakddbbaaGreatDoor
/- Programs that come in: their numbers lie in the range of their kind. -/
namespace Go.Proofs.YtlhbledakddbbaaGreatDoor
open Go.ChangeShapes Go.WideShapes Go.ChangeAt Go.RowKit

def Rgn.fit (x : Rgn) : Prop := (-9223372036854775808 ≤ x.addr ∧ x.addr ≤ 9223372036854775807) ∧ -9223372036854775808 ≤ x.size ∧ x.size ≤ 9223372036854775807
def Vr.fit (x : Vr) : Prop := -9223372036854775808 ≤ x.size ∧ x.size ≤ 9223372036854775807
def Fnc.fit (f : Fnc) : Prop := (∀ v ∈ f.params, v.fit) ∧ ∀ v ∈ f.vars, v.fit
def Prg.fit (p : Prg) : Prop := (∀ r ∈ p.regs, r.fit) ∧ ∀ f ∈ p.fns, f.fit
theorem row_fit {α : Type} {A : α → Nat → Nat → Prop} {F : α → Prop} {k b : Nat} : ∀ (l : List α) (o : Nat), Row (fun x b o => A x b o ∧ F x) k l b o → ∀ x ∈ l, F x
  | [], _, _, _, h => by cases h
  | y :: r, o, h, x, hx => by
    rcases List.mem_cons.1 hx with rfl | hx
    · exact h.1.2
    · exact row_fit r _ h.2 x hx
theorem rowin_at {α : Type} {A : α → Nat → Nat → Prop} {F : α → Prop} {N k : Nat} {l : List α} {p : Option Addr} (h : RowIn N (fun x b o => A x b o ∧ F x) k l p) : RowIn N A k l p := h.imp (Nat.le_refl _) fun _ _ _ _ h => h.1
theorem rowin_fit {α : Type} {A : α → Nat → Nat → Prop} {F : α → Prop} {N k : Nat} {l : List α} {p : Option Addr} (h : RowIn N (fun x b o => A x b o ∧ F x) k l p) : ∀ x ∈ l, F x := by
  rcases h.2 with h0 | ⟨b, o, _, _, hr⟩
  · have : l = [] := List.length_eq_zero_iff.1 h0
    subst this
    intro x hx; cases hx
  · exact row_fit l o hr

section
variable {H : Type} {enc : TypeId × Value → H} {w : World}
theorem open_varsF {fuel : Nat} {cs : List Value} {x : DataW H × List MemPlace} (h : DataW.trod enc Tryz.prog w 0 (fun _ => true) true fuel 45 cs = some x) (hw : Wide 45 x.1) :
    ∃ (l : List Vr) (p : Option Addr) (c : Nat), cs = [.slice p l.length c] ∧ RowIn w.heap.size (fun x b o => Vr.At w x b o ∧ Vr.fit x) 4 l p := by
  have hk : Tryz.prog.cellsOf 80 = 4 := by kernel_rfl
  obtain ⟨m, p, len, cap, hn, rfl, hlen, hel⟩ := slice_opn hk (by decide) (by decide +kernel) Tryz.underlying45 h hw
  rcases hel with h0 | ⟨bb, off, rfl, hbl, hel⟩
  · exact ⟨[], p, cap, by rw [h0]; rfl, by simp, .inl rfl⟩
  · obtain ⟨l, rfl, hr⟩ := Row.of (A := fun x b o => Vr.At w x b o ∧ Vr.fit x) (k := 4) (b := bb) len off fun i hi => by
      obtain ⟨cs', y, hl, hc, hr, hy⟩ := hel i hi
      obtain ⟨n, rfl, hl, hf⟩ := struct_opn Tryz.underlying80 hr hy
      rw [hk] at hl
      obtain ⟨a, b, c, d, rfl⟩ := four hl
      obtain ⟨y0, h0, w0⟩ := hf 0 _ rfl
      obtain ⟨y1, h1, w1⟩ := hf 1 _ rfl
      obtain ⟨y2, h2, w2⟩ := hf 2 _ rfl
      obtain ⟨y3, h3, w3⟩ := hf 3 _ rfl
      replace h0 : DataW.trod enc Tryz.prog w 0 (fun _ => true) true n 9 (List.take (Tryz.prog.cellsOf 9) [a, b, c, d]) = some y0 := h0
      replace h1 : DataW.trod enc Tryz.prog w 0 (fun _ => true) true n 78 (List.take (Tryz.prog.cellsOf 78) [b, c, d]) = some y1 := h1
      replace h2 : DataW.trod enc Tryz.prog w 0 (fun _ => true) true n 3 (List.take (Tryz.prog.cellsOf 3) [c, d]) = some y2 := h2
      replace h3 : DataW.trod enc Tryz.prog w 0 (fun _ => true) true n 4 (List.take (Tryz.prog.cellsOf 4) [d]) = some y3 := h3
      rw [cOne _ (by simp)] at h0 h1 h2 h3
      obtain ⟨z0, e0⟩ := opn_str Tryz.underlying9 h0
      obtain ⟨z1, e1, _, _⟩ := opn_int Tryz.underlying78 h1
      obtain ⟨z2, e2, l2, u2⟩ := opn_int Tryz.underlying3 h2
      obtain ⟨z3, e3⟩ := opn_bool Tryz.underlying4 h3
      simp at e0 e1 e2 e3
      subst e0; subst e1; subst e2; subst e3
      exact ⟨⟨z0, z1, z2, z3⟩, ⟨hc 0 (by decide), hc 1 (by decide), hc 2 (by decide), hc 3 (by decide)⟩, l2, u2⟩
    exact ⟨l, _, cap, rfl, hlen, .inr ⟨bb, off, rfl, hbl, hr⟩⟩
theorem open_regsF {fuel : Nat} {cs : List Value} {x : DataW H × List MemPlace} (h : DataW.trod enc Tryz.prog w 0 (fun _ => true) true fuel 36 cs = some x) (hw : Wide 36 x.1) :
    ∃ (l : List Rgn) (p : Option Addr) (c : Nat), cs = [.slice p l.length c] ∧ RowIn w.heap.size (fun x b o => Rgn.At w x b o ∧ Rgn.fit x) 4 l p := by
  have hk : Tryz.prog.cellsOf 77 = 4 := by kernel_rfl
  obtain ⟨m, p, len, cap, hn, rfl, hlen, hel⟩ := slice_opn hk (by decide) (by decide +kernel) Tryz.underlying36 h hw
  rcases hel with h0 | ⟨bb, off, rfl, hbl, hel⟩
  · exact ⟨[], p, cap, by rw [h0]; rfl, by simp, .inl rfl⟩
  · obtain ⟨l, rfl, hr⟩ := Row.of (A := fun x b o => Rgn.At w x b o ∧ Rgn.fit x) (k := 4) (b := bb) len off fun i hi => by
      obtain ⟨cs', y, hl, hc, hr, hy⟩ := hel i hi
      obtain ⟨n, rfl, hl, hf⟩ := struct_opn Tryz.underlying77 hr hy
      rw [hk] at hl
      obtain ⟨a, b, c, d, rfl⟩ := four hl
      obtain ⟨y0, h0, w0⟩ := hf 0 _ rfl
      obtain ⟨y1, h1, w1⟩ := hf 1 _ rfl
      obtain ⟨y2, h2, w2⟩ := hf 2 _ rfl
      obtain ⟨y3, h3, w3⟩ := hf 3 _ rfl
      replace h0 : DataW.trod enc Tryz.prog w 0 (fun _ => true) true n 9 (List.take (Tryz.prog.cellsOf 9) [a, b, c, d]) = some y0 := h0
      replace h1 : DataW.trod enc Tryz.prog w 0 (fun _ => true) true n 3 (List.take (Tryz.prog.cellsOf 3) [b, c, d]) = some y1 := h1
      replace h2 : DataW.trod enc Tryz.prog w 0 (fun _ => true) true n 3 (List.take (Tryz.prog.cellsOf 3) [c, d]) = some y2 := h2
      replace h3 : DataW.trod enc Tryz.prog w 0 (fun _ => true) true n 4 (List.take (Tryz.prog.cellsOf 4) [d]) = some y3 := h3
      rw [cOne _ (by simp)] at h0 h1 h2 h3
      obtain ⟨z0, e0⟩ := opn_str Tryz.underlying9 h0
      obtain ⟨z1, e1, l1, u1⟩ := opn_int Tryz.underlying3 h1
      obtain ⟨z2, e2, l2, u2⟩ := opn_int Tryz.underlying3 h2
      obtain ⟨z3, e3⟩ := opn_bool Tryz.underlying4 h3
      simp at e0 e1 e2 e3
      subst e0; subst e1; subst e2; subst e3
      exact ⟨⟨z0, z1, z2, z3⟩, ⟨hc 0 (by decide), hc 1 (by decide), hc 2 (by decide), hc 3 (by decide)⟩, ⟨l1, u1⟩, l2, u2⟩
    exact ⟨l, _, cap, rfl, hlen, .inr ⟨bb, off, rfl, hbl, hr⟩⟩
theorem open_fnsF {fuel : Nat} {cs : List Value} {x : DataW H × List MemPlace} (h : DataW.trod enc Tryz.prog w 0 (fun _ => true) true fuel 37 cs = some x) (hw : Wide 37 x.1) :
    ∃ (l : List Fnc) (p : Option Addr) (c : Nat), cs = [.slice p l.length c] ∧ RowIn w.heap.size (fun x b o => Fnc.At w w.heap.size x b o ∧ Fnc.fit x) 5 l p := by
  have hk : Tryz.prog.cellsOf 49 = 5 := by kernel_rfl
  obtain ⟨m, p, len, cap, hn, rfl, hlen, hel⟩ := slice_opn hk (by decide) (by decide +kernel) Tryz.underlying37 h hw
  rcases hel with h0 | ⟨bb, off, rfl, hbl, hel⟩
  · exact ⟨[], p, cap, by rw [h0]; rfl, by simp, .inl rfl⟩
  · obtain ⟨l, rfl, hr⟩ := Row.of (A := fun x b o => Fnc.At w w.heap.size x b o ∧ Fnc.fit x) (k := 5) (b := bb) len off fun i hi => by
      obtain ⟨cs', y, hl, hc, hr, hy⟩ := hel i hi
      obtain ⟨n, rfl, hl, hf⟩ := struct_opn Tryz.underlying49 hr hy
      rw [hk] at hl
      obtain ⟨a, b, c, d, e, rfl⟩ := five hl
      obtain ⟨y0, h0, w0⟩ := hf 0 _ rfl
      obtain ⟨y1, h1, w1⟩ := hf 1 _ rfl
      obtain ⟨y2, h2, w2⟩ := hf 2 _ rfl
      obtain ⟨y3, h3, w3⟩ := hf 3 _ rfl
      obtain ⟨y4, h4, w4⟩ := hf 4 _ rfl
      replace h0 : DataW.trod enc Tryz.prog w 0 (fun _ => true) true n 9 (List.take (Tryz.prog.cellsOf 9) [a, b, c, d, e]) = some y0 := h0
      replace h1 : DataW.trod enc Tryz.prog w 0 (fun _ => true) true n 45 (List.take (Tryz.prog.cellsOf 45) [b, c, d, e]) = some y1 := h1
      replace h2 : DataW.trod enc Tryz.prog w 0 (fun _ => true) true n 45 (List.take (Tryz.prog.cellsOf 45) [c, d, e]) = some y2 := h2
      replace h3 : DataW.trod enc Tryz.prog w 0 (fun _ => true) true n 46 (List.take (Tryz.prog.cellsOf 46) [d, e]) = some y3 := h3
      replace h4 : DataW.trod enc Tryz.prog w 0 (fun _ => true) true n 47 (List.take (Tryz.prog.cellsOf 47) [e]) = some y4 := h4
      rw [cOne _ (by simp)] at h0 h1 h2 h3 h4
      obtain ⟨z0, e0⟩ := opn_str Tryz.underlying9 h0
      obtain ⟨l1, p1, c1, e1, s1⟩ := open_varsF h1 w1
      obtain ⟨l2, p2, c2, e2, s2⟩ := open_varsF h2 w2
      obtain ⟨l3, p3, c3, e3, s3⟩ := open_strs h3 w3
      obtain ⟨l4, p4, c4, e4, s4⟩ := open_sts h4 w4
      simp at e0 e1 e2 e3 e4
      subst e0; subst e1; subst e2; subst e3; subst e4
      exact ⟨⟨z0, l1, l2, l3, l4⟩, Fnc.At.mk' (s := ⟨p1, p2, p3, p4, c1, c2, c3, c4⟩) (cells_at (A := Fnc.cells ⟨z0, l1, l2, l3, l4⟩ ⟨p1, p2, p3, p4, c1, c2, c3, c4⟩) rfl hc) ⟨rowin_at s1, rowin_at s2, s3, s4⟩, rowin_fit s1, rowin_fit s2⟩
    exact ⟨l, _, cap, rfl, hlen, .inr ⟨bb, off, rfl, hbl, hr⟩⟩
theorem open_prgF {fuel : Nat} {cs : List Value} {x : DataW H × List MemPlace} (h : DataW.trod enc Tryz.prog w 0 (fun _ => true) true fuel 39 cs = some x) (hw : Wide 39 x.1) :
    ∃ (l : Prg) (p q : Option Addr) (c d : Nat), cs = [.slice p l.regs.length c, .slice q l.fns.length d] ∧ l.Ok w w.heap.size p q ∧ l.fit := by
  obtain ⟨n, rfl, hl, hf⟩ := struct_opn Tryz.underlying39 h hw
  rw [show Tryz.prog.cellsOf 39 = 2 by kernel_rfl] at hl
  obtain ⟨a, b, rfl⟩ := twoL hl
  obtain ⟨y0, h0, w0⟩ := hf 0 _ rfl
  obtain ⟨y1, h1, w1⟩ := hf 1 _ rfl
  replace h0 : DataW.trod enc Tryz.prog w 0 (fun _ => true) true n 36 (List.take (Tryz.prog.cellsOf 36) [a, b]) = some y0 := h0
  replace h1 : DataW.trod enc Tryz.prog w 0 (fun _ => true) true n 37 (List.take (Tryz.prog.cellsOf 37) [b]) = some y1 := h1
  rw [cOne _ (by simp)] at h0 h1
  obtain ⟨l0, p0, c0, e0, s0⟩ := open_regsF h0 w0
  obtain ⟨l1, p1, c1, e1, s1⟩ := open_fnsF h1 w1
  simp at e0 e1
  subst e0; subst e1
  exact ⟨⟨l0, l1⟩, p0, p1, c0, c1, rfl, ⟨rowin_at s0, rowin_at s1⟩, rowin_fit s0, rowin_fit s1⟩
end
end Go.Proofs.YtlhbledakddbbaaGreatDoor
/- Names, the program's. -/
namespace Go.Proofs.YtlhbledakddbbaaGreatDoor
open Go.RowKit

def isLet (c : UInt8) : Bool := decide (97 ≤ c.toNat) && decide (c.toNat ≤ 122)
def isDig (c : UInt8) : Bool := decide (48 ≤ c.toNat) && decide (c.toNat ≤ 57)
def isPart (c : UInt8) : Bool := isLet c || isDig c || decide (c.toNat = 95)

/-- the language's own words -/
def ownWords : List (List UInt8) := [[97, 114, 114, 97, 121], [101, 108, 115, 101], [102, 110], [102, 111, 114], [105, 102], [112, 105, 99, 107], [114, 101, 103, 105, 111, 110], [115, 101, 99, 114, 101, 116], [115, 116, 97, 99, 107], [118, 97, 114], [119, 104, 105, 108, 101]]
def ownB (l : List UInt8) : Bool := decide (l ∈ ownWords)
def nameB (l : List UInt8) : Bool := !l.isEmpty && decide (l.length ≤ 16) && isLet (l.headD 0) && !ownB l && l.all isPart

theorem let_any (c : UInt8) (w : World) : Calls Tryz.prog 115 #[.int .u8 (c.toNat : Int)] w fun e w' => e = .returned (.bool (isLet c)) ∧ w = w' := by
  have hb : c.toNat < 256 := c.toNat_lt
  unfold isLet
  by_cases h1 : 97 ≤ c.toNat
  · by_cases h2 : c.toNat ≤ 122
    · have e1 : decide ((97 : Int) ≤ (c.toNat : Int)) = true := decide_eq_true (by omega)
      have e2 : decide ((c.toNat : Int) ≤ 122) = true := decide_eq_true (by omega)
      go_enter Tryz.func115, Tryz.ntmps115
      go_wp2
      go_ret
      exact ⟨by simp [h1, h2], rfl⟩
    · have e1 : decide ((97 : Int) ≤ (c.toNat : Int)) = true := decide_eq_true (by omega)
      have e2 : decide ((c.toNat : Int) ≤ 122) = false := decide_eq_false (by omega)
      go_enter Tryz.func115, Tryz.ntmps115
      go_wp2
      go_ret
      exact ⟨by simp [h1, h2], rfl⟩
  · have e1 : decide ((97 : Int) ≤ (c.toNat : Int)) = false := decide_eq_false (by omega)
    go_enter Tryz.func115, Tryz.ntmps115
    go_wp2
    go_ret
    exact ⟨by simp [h1], rfl⟩

theorem dig_any (c : UInt8) (w : World) : Calls Tryz.prog 140 #[.int .u8 (c.toNat : Int)] w fun e w' => e = .returned (.bool (isDig c)) ∧ w = w' := by
  have hb : c.toNat < 256 := c.toNat_lt
  unfold isDig
  by_cases h1 : 48 ≤ c.toNat
  · by_cases h2 : c.toNat ≤ 57
    · have e1 : decide ((48 : Int) ≤ (c.toNat : Int)) = true := decide_eq_true (by omega)
      have e2 : decide ((c.toNat : Int) ≤ 57) = true := decide_eq_true (by omega)
      go_enter Tryz.func140, Tryz.ntmps140
      go_wp2
      go_ret
      exact ⟨by simp [h1, h2], rfl⟩
    · have e1 : decide ((48 : Int) ≤ (c.toNat : Int)) = true := decide_eq_true (by omega)
      have e2 : decide ((c.toNat : Int) ≤ 57) = false := decide_eq_false (by omega)
      go_enter Tryz.func140, Tryz.ntmps140
      go_wp2
      go_ret
      exact ⟨by simp [h1, h2], rfl⟩
  · have e1 : decide ((48 : Int) ≤ (c.toNat : Int)) = false := decide_eq_false (by omega)
    go_enter Tryz.func140, Tryz.ntmps140
    go_wp2
    go_ret
    exact ⟨by simp [h1], rfl⟩

theorem part_any (c : UInt8) (w : World) : Calls Tryz.prog 117 #[.int .u8 (c.toNat : Int)] w fun e w' => e = .returned (.bool (isPart c)) ∧ w = w' := by
  have HA := Lib.hid (fun w => let_any c w)
  have HD := Lib.hid (fun w => dig_any c w)
  have h95 : decide (c.toNat = 95) = ((c.toNat : Int) == 95) := by rw [Bool.eq_iff_iff]; simp; omega
  unfold isPart
  rw [h95]
  clear h95
  generalize isLet c = x at HA
  generalize isDig c = y at HD
  generalize e : ((c.toNat : Int) == 95) = z
  cases x <;> cases y <;> cases z <;>
  · go_enter Tryz.func117, Tryz.ntmps117
    go_wp2_with (first | (go_at_call 115; refine (HA.out _).mono ?_; rintro e w' ⟨rfl, rfl⟩) | (go_at_call 140; refine (HD.out _).mono ?_; rintro e w' ⟨rfl, rfl⟩))
    go_ret
    exact ⟨rfl, rfl⟩

open Go.RowKit

theorem own_split (l : List UInt8) : ownB l = ((l == [97, 114, 114, 97, 121]) || ((l == [101, 108, 115, 101]) || ((l == [102, 110]) || ((l == [102, 111, 114]) || ((l == [105, 102]) || ((l == [112, 105, 99, 107]) || ((l == [114, 101, 103, 105, 111, 110]) || ((l == [115, 101, 99, 114, 101, 116]) || ((l == [115, 116, 97, 99, 107]) || ((l == [118, 97, 114]) || ((l == [119, 104, 105, 108, 101])))))))))))  ) := by
  rw [Bool.eq_iff_iff]
  simp only [ownB, ownWords, List.mem_cons, List.not_mem_nil, or_false, decide_eq_true_eq, Bool.or_eq_true, beq_iff_eq]
theorem own_any (s : ByteArray) (w : World) : Calls Tryz.prog 116 #[.string s] w fun e w' => e = .returned (.bool (ownB s.data.toList)) ∧ w = w' := by
  rw [own_split, ← Go.Lib.toList_data]
  generalize e0 : (s.toList == [97, 114, 114, 97, 121]) = x0
  generalize e1 : (s.toList == [101, 108, 115, 101]) = x1
  generalize e2 : (s.toList == [102, 110]) = x2
  generalize e3 : (s.toList == [102, 111, 114]) = x3
  generalize e4 : (s.toList == [105, 102]) = x4
  generalize e5 : (s.toList == [112, 105, 99, 107]) = x5
  generalize e6 : (s.toList == [114, 101, 103, 105, 111, 110]) = x6
  generalize e7 : (s.toList == [115, 101, 99, 114, 101, 116]) = x7
  generalize e8 : (s.toList == [115, 116, 97, 99, 107]) = x8
  generalize e9 : (s.toList == [118, 97, 114]) = x9
  generalize e10 : (s.toList == [119, 104, 105, 108, 101]) = x10
  cases x0
  case true =>
    go_enter Tryz.func116, Tryz.ntmps116
    go_wp2
    go_ret
    exact ⟨rfl, rfl⟩
  cases x1
  case true =>
    go_enter Tryz.func116, Tryz.ntmps116
    go_wp2
    go_ret
    exact ⟨rfl, rfl⟩
  cases x2
  case true =>
    go_enter Tryz.func116, Tryz.ntmps116
    go_wp2
    go_ret
    exact ⟨rfl, rfl⟩
  cases x3
  case true =>
    go_enter Tryz.func116, Tryz.ntmps116
    go_wp2
    go_ret
    exact ⟨rfl, rfl⟩
  cases x4
  case true =>
    go_enter Tryz.func116, Tryz.ntmps116
    go_wp2
    go_ret
    exact ⟨rfl, rfl⟩
  cases x5
  case true =>
    go_enter Tryz.func116, Tryz.ntmps116
    go_wp2
    go_ret
    exact ⟨rfl, rfl⟩
  cases x6
  case true =>
    go_enter Tryz.func116, Tryz.ntmps116
    go_wp2
    go_ret
    exact ⟨rfl, rfl⟩
  cases x7
  case true =>
    go_enter Tryz.func116, Tryz.ntmps116
    go_wp2
    go_ret
    exact ⟨rfl, rfl⟩
  cases x8
  case true =>
    go_enter Tryz.func116, Tryz.ntmps116
    go_wp2
    go_ret
    exact ⟨rfl, rfl⟩
  cases x9
  case true =>
    go_enter Tryz.func116, Tryz.ntmps116
    go_wp2
    go_ret
    exact ⟨rfl, rfl⟩
  cases x10
  case true =>
    go_enter Tryz.func116, Tryz.ntmps116
    go_wp2
    go_ret
    exact ⟨rfl, rfl⟩
  go_enter Tryz.func116, Tryz.ntmps116
  go_wp2
  go_ret
  exact ⟨rfl, rfl⟩

open Go.RowKit

theorem isPart_take {l : List UInt8} {k : Nat} (h : (l.take k).all isPart = true) (hk : k < l.length) (hc : isPart l[k] = true) : (l.take (k + 1)).all isPart = true := by
  rw [List.take_succ_eq_append_getElem hk, List.all_append, h]; simp [hc]
theorem name_long {l : List UInt8} (h : 16 < l.length) : nameB l = false := by simp [nameB]; omega
theorem name_first {l : List UInt8} (h : isLet (l.headD 0) = false) : nameB l = false := by simp only [nameB, h, Bool.and_false, Bool.false_and]
theorem name_own {l : List UInt8} (h : ownB l = true) : nameB l = false := by simp only [nameB, h, Bool.not_true, Bool.and_false, Bool.false_and]
theorem name_part {l : List UInt8} {k : Nat} (hk : k < l.length) (h : isPart l[k] = false) : nameB l = false := by
  have : l.all isPart = false := by
    rw [Bool.eq_false_iff]
    intro ha
    rw [List.all_eq_true] at ha
    rw [ha _ (List.getElem_mem hk)] at h; cases h
  simp only [nameB, this, Bool.and_false]
theorem name_yes {l : List UInt8} (h0 : 0 < l.length) (h1 : l.length ≤ 16) (h2 : isLet (l.headD 0) = true) (h3 : ownB l = false) (h4 : (l.take l.length).all isPart = true) : nameB l = true := by
  rw [List.take_length] at h4
  cases l with
  | nil => simp at h0
  | cons c r => simp only [nameB, h2, h3, h4, decide_eq_true h1]; rfl
theorem head_get (l : List UInt8) (h : 0 < l.length) : l.headD 0 = l[0] := by
  cases l with
  | nil => simp at h
  | cons c r => rfl

set_option maxHeartbeats 1600000 in
theorem name_any (s : ByteArray) (w : World) : Calls Tryz.prog 78 #[.string s] w fun e w' => e = .returned (.bool (nameB s.data.toList)) ∧ w = w' := by
  by_cases h0 : s.size = 0
  · have h1 : s.data.toList = [] := List.eq_nil_of_length_eq_zero (by rw [← size_len]; exact h0)
    obtain rfl : s = ⟨#[]⟩ := bytes_ext h1
    go_enter Tryz.func78, Tryz.ntmps78
    go_wp2
    go_ret
    exact ⟨rfl, rfl⟩
  have hne : s.toList ≠ [] := fun h => h0 (by rw [size_len, ← Go.Lib.toList_data, h]; rfl)
  have e0 : s.toList.isEmpty = false := by cases h : s.toList with | nil => exact absurd h hne | cons _ _ => rfl
  have hpos : 0 < s.size := by omega
  clear h0
  by_cases h16 : 16 < s.size
  · have HF := Lib.hid (name_long (l := s.data.toList) (by rw [← size_len]; exact h16))
    go_enter Tryz.func78, Tryz.ntmps78
    go_wp2
    go_ret
    exact ⟨ret_bool HF.out.symm, rfl⟩
  have hlen : 0 < s.data.toList.length := by rw [← size_len]; exact hpos
  have hz : s.size ≤ 16 := by omega
  have hhd : s.data.toList.headD 0 = (s[0]'hpos) := head_get _ hlen
  have HL := Lib.hid (fun w => let_any (s[0]'hpos) w)
  have HFst := Lib.hid hhd
  clear hlen hhd
  cases hl : isLet (s[0]'hpos)
  · have HF := Lib.hid (name_first (l := s.data.toList) (by rw [HFst.out]; exact hl))
    rw [hl] at HL
    clear hl
    go_enter Tryz.func78, Tryz.ntmps78
    go_wp2_with (go_at_call 115; refine (HL.out _).mono ?_; rintro e w' ⟨rfl, rfl⟩)
    go_ret
    exact ⟨ret_bool HF.out.symm, rfl⟩
  rw [hl] at HL
  have HLt := Lib.hid hl
  clear hl
  have HO := Lib.hid (fun w => own_any s w)
  cases ho : ownB s.data.toList
  case true =>
    have HF := Lib.hid (name_own ho)
    rw [ho] at HO
    clear ho
    go_enter Tryz.func78, Tryz.ntmps78
    go_wp2_with (first | (go_at_call 115; refine (HL.out _).mono ?_; rintro e w' ⟨rfl, rfl⟩) | (go_at_call 116; refine (HO.out _).mono ?_; rintro e w' ⟨rfl, rfl⟩))
    go_ret
    exact ⟨ret_bool HF.out.symm, rfl⟩
  rw [ho] at HO
  have HOw := Lib.hid ho
  clear ho
  go_enter Tryz.func78, Tryz.ntmps78
  go_wp2_with (first | (go_at_call 115; refine (HL.out _).mono ?_; rintro e w' ⟨rfl, rfl⟩) | (go_at_call 116; refine (HO.out _).mono ?_; rintro e w' ⟨rfl, rfl⟩))
  
  
  go_loop [23] (fun i => ∃ k : Nat, i = .int .i64 k ∧ k ≤ s.size ∧ Hid ((s.data.toList.take k).all isPart = true)) (fun i => s.size - (intOf i).toNat)
  case atStart => exact ⟨0, rfl, by omega, Lib.hid rfl⟩
  case round =>
    obtain ⟨k, rfl, hk, hP⟩ := hrel
    by_cases hlt : k < s.size
    · have HP := Lib.hid (fun w => part_any (s[k]'hlt) w)
      have HS := Lib.hid (fun h => isPart_take (l := s.data.toList) (k := k) hP.out (by rw [← size_len]; exact hlt) h)
      have HN := Lib.hid (fun h => name_part (l := s.data.toList) (k := k) (by rw [← size_len]; exact hlt) h)
      have hg : s.data.toList[k]'(by rw [← size_len]; exact hlt) = s[k]'hlt := rfl
      rw [hg] at HS HN
      clear hg
      cases hc : isPart (s[k]'hlt)
      · rw [hc] at HP
        have HF := Lib.hid (HN.out hc)
        clear HN hc HS
        go_wp2_with (go_at_call 117; refine (HP.out _).mono ?_; rintro e w' ⟨rfl, rfl⟩)
        go_ret
        exact ⟨ret_bool HF.out.symm, rfl⟩
      · rw [hc] at HP
        have HT := Lib.hid (HS.out hc)
        clear HN hc HS
        go_wp2_with (go_at_call 117; refine (HP.out _).mono ?_; rintro e w' ⟨rfl, rfl⟩)
        go_round
        case rel => exact ⟨k + 1, by go_num, by omega, HT⟩
        case measure => simp [intOf]; omega
    · obtain rfl : k = s.size := by omega
      have HF := Lib.hid (name_yes (l := s.data.toList) (by rw [← size_len]; exact hpos) (by rw [← size_len]; exact hz) (by rw [HFst.out]; exact HLt.out) HOw.out (by rw [← size_len]; exact hP.out))
      go_wp2
      go_ret
      exact ⟨ret_bool HF.out.symm, rfl⟩
end Go.Proofs.YtlhbledakddbbaaGreatDoor
/- Which expressions can be told. -/
namespace Go.Proofs.YtlhbledakddbbaaGreatDoor
open Go.RowKit

def argsN (op : Int) : Nat := if op = 21 then 3 else if 6 ≤ op ∧ op ≤ 20 then 2 else if 3 ≤ op ∧ op ≤ 5 then 1 else 0
def okOp (op : Int) (x : Nat) (nm : List UInt8) : Bool :=
  if op = 1 then nm.isEmpty else if op = 2 ∨ op = 3 then decide (x = 0) && nameB nm else if 4 ≤ op ∧ op ≤ 21 then decide (x = 0) && nm.isEmpty else false
mutual
def Ex.may : Ex → Bool
  | .mk op x nm as' => decide (as'.len = argsN op) && as'.may && okOp op x nm
def Exs.may : Exs → Bool
  | .nil => true
  | .cons x r => x.may && r.may
end

set_option maxHeartbeats 1600000 in
theorem argsOf_any (op : Int) (w : World) : Calls Tryz.prog 76 #[.int .i64 op] w fun e w' => e = .returned (.int .i64 (argsN op)) ∧ w = w' := by
  unfold argsN
  by_cases h1 : op = 21
  · subst h1
    go_enter Tryz.func76, Tryz.ntmps76
    go_wp2
    go_ret
    exact ⟨rfl, rfl⟩
  have e1 : (op == 21) = false := by simp; exact h1
  rw [if_neg h1]
  by_cases h6 : 6 ≤ op
  · by_cases h20 : op ≤ 20
    · rw [if_pos ⟨h6, h20⟩]
      go_enter Tryz.func76, Tryz.ntmps76
      go_wp2
      go_ret
      exact ⟨rfl, rfl⟩
    · rw [if_neg (fun h => h20 h.2), if_neg (by omega)]
      have h3 : 3 ≤ op := by omega
      have h5 : ¬ op ≤ 5 := by omega
      go_enter Tryz.func76, Tryz.ntmps76
      go_wp2
      go_ret
      exact ⟨rfl, rfl⟩
  · rw [if_neg (fun h => h6 h.1)]
    by_cases h3 : 3 ≤ op
    · have h5 : op ≤ 5 := by omega
      rw [if_pos ⟨h3, h5⟩]
      go_enter Tryz.func76, Tryz.ntmps76
      go_wp2
      go_ret
      exact ⟨rfl, rfl⟩
    · rw [if_neg (fun h => h3 h.1)]
      go_enter Tryz.func76, Tryz.ntmps76
      go_wp2
      go_ret
      exact ⟨rfl, rfl⟩

def MayTo (n : Nat) : Prop := ∀ (x : Ex), x.size < n → ∀ (p : Option Addr) (c N : Nat) (w : World), N ≤ w.heap.size → x.Ok w N p →
    Calls Tryz.prog 35 #[x.val p c] w fun e w' => e = .returned (.bool x.may) ∧ Below w.heap.size w w'

set_option maxHeartbeats 1600000 in
theorem every_step (n : Nat) (ih : MayTo n) (l : Exs) (hl : l.size ≤ n) (p : Option Addr) (c N : Nat) (w : World) (hN : N ≤ w.heap.size) (h : l.In w N p) :
    Calls Tryz.prog 77 #[.slice p l.len c, .func (.func 35) #[] #[]] w fun e w' => e = .returned (.bool l.may) ∧ Below w.heap.size w w' := by
  have IH := Lib.hid ih
  clear ih
  rcases h with ⟨hm, h0 | ⟨b, o, rfl, hb, ha⟩⟩
  · go_enter Tryz.func77, Tryz.ntmps77
    go_wp2_with fail
    go_loopw [9] (fun i wr => i = .int .i64 0 ∧ wr = w) (fun _ _ => 0)
    case atStart => exact ⟨rfl, rfl⟩
    case round =>
      obtain ⟨rfl, rfl⟩ := hrel
      have hge : ¬ 0 < l.len := by omega
      go_wp2_with fail
      go_ret
      exact ⟨ret_bool (by cases l with | nil => rfl | cons => simp [Exs.len] at h0), Below.refl _ _⟩
  · have HA := Lib.hid ha
    clear ha
    go_enter Tryz.func77, Tryz.ntmps77
    go_wp2_with fail
    go_loopw [9] (fun i wr => ∃ (k : Nat) (r : Exs), i = .int .i64 k ∧ k + r.len = l.len ∧ r.size ≤ n ∧ Hid (r.At w N b (o + k * 4)) ∧ Hid (l.may = r.may) ∧ Hid (Below w.heap.size w wr)) (fun i _ => l.len - (intOf i).toNat)
    case atStart => exact ⟨0, l, rfl, by omega, hl, Lib.hid (by rw [Nat.zero_mul]; exact HA.out), Lib.hid rfl, Lib.hid (Below.refl _ _)⟩
    case round =>
      obtain ⟨k, r, rfl, hk, hrs, hr, hE, hB⟩ := hrel
      cases r with
      | nil =>
        simp only [Exs.len] at hk
        have hge : ¬ k < l.len := by omega
        go_wp2_with fail
        go_ret
        exact ⟨ret_bool (by rw [hE.out]; rfl), hB.out⟩
      | cons x r =>
        obtain ⟨hx, hr2⟩ := hr.out
        have hr3 := Lib.hid (show r.At w N b (o + (k + 1) * 4) by rw [show o + (k + 1) * 4 = o + k * 4 + 4 by omega]; exact hr2)
        simp only [Exs.len] at hk
        simp only [Exs.size] at hrs
        have hlt : k < l.len := by omega
        have hx' := Ex.At.later (hB.out.mono hN) (Nat.le_refl _) x b (o + k * 4) hb hx
        have HIH := Lib.hid (fun p c w h1 h2 => IH.out x (by omega) p c N w h1 h2)
        obtain ⟨op, wd, nm, ar⟩ := x
        obtain ⟨⟨g0, g1, g2, g3⟩, ⟨q, d, g4, s4⟩⟩ := hx'
        have HOk := Lib.hid (show (Ex.mk op wd nm ar).Ok wr N q from ⟨s4, g3⟩)
        have HE := Lib.hid (show l.may = ((Ex.mk op wd nm ar).may && r.may) by rw [hE.out, Exs.may])
        clear hr hx hr2 s4
        obtain ⟨m, hm'⟩ : ∃ m, (Ex.mk op wd nm ar).may = m := ⟨_, rfl⟩
        rw [hm'] at HE HIH
        have HNr := Nat.le_trans hN hB.out.size
        have HB2 := Lib.hid ((Below.refl wr.heap.size wr).alloc (Nat.le_refl _) (.cells #[.int .i64 op, .int .u64 (wd : Int), .string (str nm), .slice q ar.len d] 26))
        have HC := Lib.hid (HIH.out q d _ (by simp; omega) (HOk.out.later (HB2.out.mono HNr) (Nat.le_refl _)))
        unfold Ex.val at HC
        simp only [Ex.op, Ex.word, Ex.name, Ex.args] at HC
        cases m
        · go_wp2_with fail
          refine HC.out.mono ?_
          rintro e w2 ⟨rfl, hB2⟩
          go_wp2_with fail
          go_ret
          exact ⟨ret_bool (by rw [HE.out]; rfl), (hB.out.trans (HB2.out.mono hB.out.size)).trans (hB2.mono (Nat.le_trans hB.out.size HB2.out.size))⟩
        · go_wp2_with fail
          refine HC.out.mono ?_
          rintro e w2 ⟨rfl, hB2⟩
          have HB3 := Lib.hid ((hB.out.trans (HB2.out.mono hB.out.size)).trans (hB2.mono (Nat.le_trans hB.out.size HB2.out.size)))
          clear hB2
          go_wp2_with fail
          go_roundw
          case rel => exact ⟨k + 1, r, by go_num, by omega, by omega, hr3, Lib.hid (by rw [HE.out]; simp), HB3⟩
          case measure => simp [intOf]; omega

theorem okOp_1 (x : Nat) (nm : List UInt8) : okOp 1 x nm = nm.isEmpty := by rw [okOp, if_pos rfl]
theorem okOp_23 {op : Int} (h : op = 2 ∨ op = 3) (x : Nat) (nm : List UInt8) : okOp op x nm = (decide (x = 0) && nameB nm) := by
  rw [okOp, if_neg (by omega), if_pos h]
theorem okOp_4 {op : Int} (h : 4 ≤ op) (h2 : op ≤ 21) (x : Nat) (nm : List UInt8) : okOp op x nm = (decide (x = 0) && nm.isEmpty) := by
  rw [okOp, if_neg (by omega), if_neg (by omega), if_pos ⟨h, h2⟩]
theorem okOp_no {op : Int} (h : op ≤ 0 ∨ 22 ≤ op) (x : Nat) (nm : List UInt8) : okOp op x nm = false := by
  rw [okOp, if_neg (by omega), if_neg (by omega), if_neg (by omega)]
theorem str_empty (nm : List UInt8) : ((str nm).toList == []) = nm.isEmpty := by
  rw [Go.Lib.toList_data, str_data]; cases nm <;> rfl
theorem nat_zero (x : Nat) : (((x : Nat) : Int) == 0) = decide (x = 0) := by
  rw [Bool.eq_iff_iff]; simp

set_option maxRecDepth 100000 in
set_option maxHeartbeats 6400000 in
theorem may_step (n : Nat) (ih : MayTo n) : MayTo (n + 1) := by
  intro x hxs p c N w hN hok
  obtain ⟨op, wd, nm, ar⟩ := x
  obtain ⟨hin, hw⟩ := hok
  simp only [Ex.size] at hxs
  simp only [Ex.args] at hin
  rw [show (Ex.mk op wd nm ar).may = (decide (ar.len = argsN op) && ar.may && okOp op wd nm) by rw [Ex.may]]
  unfold Ex.val
  simp only [Ex.op, Ex.word, Ex.name, Ex.args]
  have hB1 : Below w.heap.size w (w.alloc (.cells #[.int .i64 op, .int .u64 (wd : Int), .string (str nm), .slice p ar.len c] 26)) := (Below.refl _ _).alloc (Nat.le_refl _) _
  have HEv := Lib.hid (every_step n ih ar (by omega) p c N (w.alloc (.cells #[.int .i64 op, .int .u64 (wd : Int), .string (str nm), .slice p ar.len c] 26)).drew (by simp; omega) ((hin.later (hB1.mono hN) (Nat.le_refl _)).later (Below.refl _ _).drew (Nat.le_refl _)))
  have HB1 := Lib.hid hB1
  have HA := Lib.hid (fun w => argsOf_any op w)
  have HNm := Lib.hid (fun w => name_any (str nm) w)
  rw [str_data] at HNm
  have es := str_empty nm
  have ew := nat_zero wd
  clear ih hin hB1
  by_cases hl : ar.len = argsN op
  · have e1 : ((ar.len : Int) != (argsN op : Int)) = false := by rw [hl]; simp
    rw [decide_eq_true hl]
    generalize argsN op = an at HA e1
    obtain ⟨m, hm⟩ : ∃ m, ar.may = m := ⟨_, rfl⟩
    rw [hm] at HEv ⊢
    clear hl hm
    cases m
    · go_enter Tryz.func35, Tryz.ntmps35
      go_wp2_with fail
      go_region_held3 (fun w' => w'.cell? ⟨w.heap.size, 0, none⟩ = some (.int .i64 op) ∧ w'.cell? ⟨w.heap.size, 1, none⟩ = some (.int .u64 (wd : Int)) ∧ w'.cell? ⟨w.heap.size, 2, none⟩ = some (.string (str nm)) ∧ w'.cell? ⟨w.heap.size, 3, none⟩ = some (.slice p ar.len c))
        (first | go_keep | (go_split_ands; refine ⟨?_, ?_, ?_, ?_⟩ <;> (refine (hB.cell (by simp)).trans ?_; assumption)))
        (first | (go_at_call 76; refine (HA.out _).mono ?_; rintro e w' ⟨rfl, rfl⟩) | (go_at_call 77; refine HEv.out.mono ?_; rintro e w' ⟨rfl, hB⟩))
      all_goals (have HB := Lib.hid hB)
      all_goals clear hB
      all_goals go_wp2_with fail
      all_goals go_ret
      all_goals exact ⟨by simp, HB1.out.drew.trans (HB.out.mono (by simp))⟩
    · by_cases o1 : op = 1
      · subst o1
        have HF := Lib.hid (show (true && true && okOp 1 wd nm) = nm.isEmpty by rw [okOp_1]; rfl)
        generalize nm.isEmpty = em at es HF
        go_enter Tryz.func35, Tryz.ntmps35
        go_wp2_with fail
        go_region_held3 (fun w' => w'.cell? ⟨w.heap.size, 0, none⟩ = some (.int .i64 1) ∧ w'.cell? ⟨w.heap.size, 1, none⟩ = some (.int .u64 (wd : Int)) ∧ w'.cell? ⟨w.heap.size, 2, none⟩ = some (.string (str nm)) ∧ w'.cell? ⟨w.heap.size, 3, none⟩ = some (.slice p ar.len c))
          (first | go_keep | (go_split_ands; refine ⟨?_, ?_, ?_, ?_⟩ <;> (refine (hB.cell (by simp)).trans ?_; assumption)))
          (first | (go_at_call 76; refine (HA.out _).mono ?_; rintro e w' ⟨rfl, rfl⟩) | (go_at_call 77; refine HEv.out.mono ?_; rintro e w' ⟨rfl, hB⟩))
        have HB := Lib.hid hB
        have c0 : w'.cell? ⟨w.heap.size, 0, none⟩ = some (.int .i64 1) := (hB.cell (by simp)).trans (by simp [go_sem])
        have c1 : w'.cell? ⟨w.heap.size, 1, none⟩ = some (.int .u64 (wd : Int)) := (hB.cell (by simp)).trans (by simp [go_sem])
        have c2 : w'.cell? ⟨w.heap.size, 2, none⟩ = some (.string (str nm)) := (hB.cell (by simp)).trans (by simp [go_sem])
        clear hB
        go_wp2_with fail
        go_ret
        exact ⟨ret_bool HF.out.symm, HB1.out.drew.trans (HB.out.mono (by simp))⟩
      have t1 : (op == 1) = false := by simp; exact o1
      by_cases o23 : op = 2 ∨ op = 3
      · have HF := Lib.hid (show (true && true && okOp op wd nm) = (decide (wd = 0) && nameB nm) by rw [okOp_23 o23]; rfl)
        generalize decide (wd = 0) = z at ew HF
        generalize nameB nm = nb at HNm HF
        cases z
        · rcases o23 with rfl | rfl
          · go_enter Tryz.func35, Tryz.ntmps35
            go_wp2_with fail
            go_region_held3 (fun w' => w'.cell? ⟨w.heap.size, 0, none⟩ = some (.int .i64 2) ∧ w'.cell? ⟨w.heap.size, 1, none⟩ = some (.int .u64 (wd : Int)) ∧ w'.cell? ⟨w.heap.size, 2, none⟩ = some (.string (str nm)) ∧ w'.cell? ⟨w.heap.size, 3, none⟩ = some (.slice p ar.len c))
              (first | go_keep | (go_split_ands; refine ⟨?_, ?_, ?_, ?_⟩ <;> (refine (hB.cell (by simp)).trans ?_; assumption)))
              (first | (go_at_call 76; refine (HA.out _).mono ?_; rintro e w' ⟨rfl, rfl⟩) | (go_at_call 77; refine HEv.out.mono ?_; rintro e w' ⟨rfl, hB⟩))
            have HB := Lib.hid hB
            have c0 : w'.cell? ⟨w.heap.size, 0, none⟩ = some (.int .i64 2) := (hB.cell (by simp)).trans (by simp [go_sem])
            have c1 : w'.cell? ⟨w.heap.size, 1, none⟩ = some (.int .u64 (wd : Int)) := (hB.cell (by simp)).trans (by simp [go_sem])
            have c2 : w'.cell? ⟨w.heap.size, 2, none⟩ = some (.string (str nm)) := (hB.cell (by simp)).trans (by simp [go_sem])
            clear hB
            go_wp2_with fail
            go_ret
            exact ⟨ret_bool HF.out.symm, HB1.out.drew.trans (HB.out.mono (by simp))⟩
          · go_enter Tryz.func35, Tryz.ntmps35
            go_wp2_with fail
            go_region_held3 (fun w' => w'.cell? ⟨w.heap.size, 0, none⟩ = some (.int .i64 3) ∧ w'.cell? ⟨w.heap.size, 1, none⟩ = some (.int .u64 (wd : Int)) ∧ w'.cell? ⟨w.heap.size, 2, none⟩ = some (.string (str nm)) ∧ w'.cell? ⟨w.heap.size, 3, none⟩ = some (.slice p ar.len c))
              (first | go_keep | (go_split_ands; refine ⟨?_, ?_, ?_, ?_⟩ <;> (refine (hB.cell (by simp)).trans ?_; assumption)))
              (first | (go_at_call 76; refine (HA.out _).mono ?_; rintro e w' ⟨rfl, rfl⟩) | (go_at_call 77; refine HEv.out.mono ?_; rintro e w' ⟨rfl, hB⟩))
            have HB := Lib.hid hB
            have c0 : w'.cell? ⟨w.heap.size, 0, none⟩ = some (.int .i64 3) := (hB.cell (by simp)).trans (by simp [go_sem])
            have c1 : w'.cell? ⟨w.heap.size, 1, none⟩ = some (.int .u64 (wd : Int)) := (hB.cell (by simp)).trans (by simp [go_sem])
            have c2 : w'.cell? ⟨w.heap.size, 2, none⟩ = some (.string (str nm)) := (hB.cell (by simp)).trans (by simp [go_sem])
            clear hB
            go_wp2_with fail
            go_ret
            exact ⟨ret_bool HF.out.symm, HB1.out.drew.trans (HB.out.mono (by simp))⟩
        · rcases o23 with rfl | rfl
          · go_enter Tryz.func35, Tryz.ntmps35
            go_wp2_with fail
            go_region_held3 (fun w' => w'.cell? ⟨w.heap.size, 0, none⟩ = some (.int .i64 2) ∧ w'.cell? ⟨w.heap.size, 1, none⟩ = some (.int .u64 (wd : Int)) ∧ w'.cell? ⟨w.heap.size, 2, none⟩ = some (.string (str nm)) ∧ w'.cell? ⟨w.heap.size, 3, none⟩ = some (.slice p ar.len c))
              (first | go_keep | (go_split_ands; refine ⟨?_, ?_, ?_, ?_⟩ <;> (refine (hB.cell (by simp)).trans ?_; assumption)))
              (first | (go_at_call 76; refine (HA.out _).mono ?_; rintro e w' ⟨rfl, rfl⟩) | (go_at_call 77; refine HEv.out.mono ?_; rintro e w' ⟨rfl, hB⟩))
            have HB := Lib.hid hB
            have c0 : w'.cell? ⟨w.heap.size, 0, none⟩ = some (.int .i64 2) := (hB.cell (by simp)).trans (by simp [go_sem])
            have c1 : w'.cell? ⟨w.heap.size, 1, none⟩ = some (.int .u64 (wd : Int)) := (hB.cell (by simp)).trans (by simp [go_sem])
            have c2 : w'.cell? ⟨w.heap.size, 2, none⟩ = some (.string (str nm)) := (hB.cell (by simp)).trans (by simp [go_sem])
            clear hB
            go_wp2_with fail
            refine (HNm.out _).mono ?_
            rintro e w' ⟨rfl, rfl⟩
            go_wp2_with fail
            go_ret
            exact ⟨ret_bool HF.out.symm, HB1.out.drew.trans (HB.out.mono (by simp))⟩
          · go_enter Tryz.func35, Tryz.ntmps35
            go_wp2_with fail
            go_region_held3 (fun w' => w'.cell? ⟨w.heap.size, 0, none⟩ = some (.int .i64 3) ∧ w'.cell? ⟨w.heap.size, 1, none⟩ = some (.int .u64 (wd : Int)) ∧ w'.cell? ⟨w.heap.size, 2, none⟩ = some (.string (str nm)) ∧ w'.cell? ⟨w.heap.size, 3, none⟩ = some (.slice p ar.len c))
              (first | go_keep | (go_split_ands; refine ⟨?_, ?_, ?_, ?_⟩ <;> (refine (hB.cell (by simp)).trans ?_; assumption)))
              (first | (go_at_call 76; refine (HA.out _).mono ?_; rintro e w' ⟨rfl, rfl⟩) | (go_at_call 77; refine HEv.out.mono ?_; rintro e w' ⟨rfl, hB⟩))
            have HB := Lib.hid hB
            have c0 : w'.cell? ⟨w.heap.size, 0, none⟩ = some (.int .i64 3) := (hB.cell (by simp)).trans (by simp [go_sem])
            have c1 : w'.cell? ⟨w.heap.size, 1, none⟩ = some (.int .u64 (wd : Int)) := (hB.cell (by simp)).trans (by simp [go_sem])
            have c2 : w'.cell? ⟨w.heap.size, 2, none⟩ = some (.string (str nm)) := (hB.cell (by simp)).trans (by simp [go_sem])
            clear hB
            go_wp2_with fail
            refine (HNm.out _).mono ?_
            rintro e w' ⟨rfl, rfl⟩
            go_wp2_with fail
            go_ret
            exact ⟨ret_bool HF.out.symm, HB1.out.drew.trans (HB.out.mono (by simp))⟩
      have t2 : (op == 2) = false := by simp; omega
      have t3 : (op == 3) = false := by simp; omega
      by_cases o4 : 4 ≤ op
      · by_cases o21 : op ≤ 21
        · have HF := Lib.hid (show (true && true && okOp op wd nm) = (decide (wd = 0) && nm.isEmpty) by rw [okOp_4 o4 o21]; rfl)
          generalize decide (wd = 0) = z at ew HF
          generalize nm.isEmpty = em at es HF
          cases z
          · clear o1 o23
            go_enter Tryz.func35, Tryz.ntmps35
            go_wp2_with fail
            go_region_held3 (fun w' => w'.cell? ⟨w.heap.size, 0, none⟩ = some (.int .i64 op) ∧ w'.cell? ⟨w.heap.size, 1, none⟩ = some (.int .u64 (wd : Int)) ∧ w'.cell? ⟨w.heap.size, 2, none⟩ = some (.string (str nm)) ∧ w'.cell? ⟨w.heap.size, 3, none⟩ = some (.slice p ar.len c))
              (first | go_keep | (go_split_ands; refine ⟨?_, ?_, ?_, ?_⟩ <;> (refine (hB.cell (by simp)).trans ?_; assumption)))
              (first | (go_at_call 76; refine (HA.out _).mono ?_; rintro e w' ⟨rfl, rfl⟩) | (go_at_call 77; refine HEv.out.mono ?_; rintro e w' ⟨rfl, hB⟩))
            have HB := Lib.hid hB
            have c0 : w'.cell? ⟨w.heap.size, 0, none⟩ = some (.int .i64 op) := (hB.cell (by simp)).trans (by simp [go_sem])
            have c1 : w'.cell? ⟨w.heap.size, 1, none⟩ = some (.int .u64 (wd : Int)) := (hB.cell (by simp)).trans (by simp [go_sem])
            have c2 : w'.cell? ⟨w.heap.size, 2, none⟩ = some (.string (str nm)) := (hB.cell (by simp)).trans (by simp [go_sem])
            clear hB
            go_wp2_with fail
            go_ret
            exact ⟨ret_bool HF.out.symm, HB1.out.drew.trans (HB.out.mono (by simp))⟩
          · clear o1 o23
            go_enter Tryz.func35, Tryz.ntmps35
            go_wp2_with fail
            go_region_held3 (fun w' => w'.cell? ⟨w.heap.size, 0, none⟩ = some (.int .i64 op) ∧ w'.cell? ⟨w.heap.size, 1, none⟩ = some (.int .u64 (wd : Int)) ∧ w'.cell? ⟨w.heap.size, 2, none⟩ = some (.string (str nm)) ∧ w'.cell? ⟨w.heap.size, 3, none⟩ = some (.slice p ar.len c))
              (first | go_keep | (go_split_ands; refine ⟨?_, ?_, ?_, ?_⟩ <;> (refine (hB.cell (by simp)).trans ?_; assumption)))
              (first | (go_at_call 76; refine (HA.out _).mono ?_; rintro e w' ⟨rfl, rfl⟩) | (go_at_call 77; refine HEv.out.mono ?_; rintro e w' ⟨rfl, hB⟩))
            have HB := Lib.hid hB
            have c0 : w'.cell? ⟨w.heap.size, 0, none⟩ = some (.int .i64 op) := (hB.cell (by simp)).trans (by simp [go_sem])
            have c1 : w'.cell? ⟨w.heap.size, 1, none⟩ = some (.int .u64 (wd : Int)) := (hB.cell (by simp)).trans (by simp [go_sem])
            have c2 : w'.cell? ⟨w.heap.size, 2, none⟩ = some (.string (str nm)) := (hB.cell (by simp)).trans (by simp [go_sem])
            clear hB
            go_wp2_with fail
            go_ret
            exact ⟨ret_bool HF.out.symm, HB1.out.drew.trans (HB.out.mono (by simp))⟩
        · have HF := Lib.hid (show (true && true && okOp op wd nm) = false by rw [okOp_no (by omega)]; rfl)
          clear o1 o23
          go_enter Tryz.func35, Tryz.ntmps35
          go_wp2_with fail
          go_region_held3 (fun w' => w'.cell? ⟨w.heap.size, 0, none⟩ = some (.int .i64 op) ∧ w'.cell? ⟨w.heap.size, 1, none⟩ = some (.int .u64 (wd : Int)) ∧ w'.cell? ⟨w.heap.size, 2, none⟩ = some (.string (str nm)) ∧ w'.cell? ⟨w.heap.size, 3, none⟩ = some (.slice p ar.len c))
            (first | go_keep | (go_split_ands; refine ⟨?_, ?_, ?_, ?_⟩ <;> (refine (hB.cell (by simp)).trans ?_; assumption)))
            (first | (go_at_call 76; refine (HA.out _).mono ?_; rintro e w' ⟨rfl, rfl⟩) | (go_at_call 77; refine HEv.out.mono ?_; rintro e w' ⟨rfl, hB⟩))
          have HB := Lib.hid hB
          have c0 : w'.cell? ⟨w.heap.size, 0, none⟩ = some (.int .i64 op) := (hB.cell (by simp)).trans (by simp [go_sem])
          have c1 : w'.cell? ⟨w.heap.size, 1, none⟩ = some (.int .u64 (wd : Int)) := (hB.cell (by simp)).trans (by simp [go_sem])
          have c2 : w'.cell? ⟨w.heap.size, 2, none⟩ = some (.string (str nm)) := (hB.cell (by simp)).trans (by simp [go_sem])
          clear hB
          go_wp2_with fail
          go_ret
          exact ⟨ret_bool HF.out.symm, HB1.out.drew.trans (HB.out.mono (by simp))⟩
      · have HF := Lib.hid (show (true && true && okOp op wd nm) = false by rw [okOp_no (by omega)]; rfl)
        clear o1 o23
        go_enter Tryz.func35, Tryz.ntmps35
        go_wp2_with fail
        go_region_held3 (fun w' => w'.cell? ⟨w.heap.size, 0, none⟩ = some (.int .i64 op) ∧ w'.cell? ⟨w.heap.size, 1, none⟩ = some (.int .u64 (wd : Int)) ∧ w'.cell? ⟨w.heap.size, 2, none⟩ = some (.string (str nm)) ∧ w'.cell? ⟨w.heap.size, 3, none⟩ = some (.slice p ar.len c))
          (first | go_keep | (go_split_ands; refine ⟨?_, ?_, ?_, ?_⟩ <;> (refine (hB.cell (by simp)).trans ?_; assumption)))
          (first | (go_at_call 76; refine (HA.out _).mono ?_; rintro e w' ⟨rfl, rfl⟩) | (go_at_call 77; refine HEv.out.mono ?_; rintro e w' ⟨rfl, hB⟩))
        have HB := Lib.hid hB
        have c0 : w'.cell? ⟨w.heap.size, 0, none⟩ = some (.int .i64 op) := (hB.cell (by simp)).trans (by simp [go_sem])
        have c1 : w'.cell? ⟨w.heap.size, 1, none⟩ = some (.int .u64 (wd : Int)) := (hB.cell (by simp)).trans (by simp [go_sem])
        have c2 : w'.cell? ⟨w.heap.size, 2, none⟩ = some (.string (str nm)) := (hB.cell (by simp)).trans (by simp [go_sem])
        clear hB
        go_wp2_with fail
        go_ret
        exact ⟨ret_bool HF.out.symm, HB1.out.drew.trans (HB.out.mono (by simp))⟩
  · have e1 : ((ar.len : Int) != (argsN op : Int)) = true := by simp; omega
    rw [decide_eq_false hl]
    generalize argsN op = an at HA e1
    clear hl HEv
    go_enter Tryz.func35, Tryz.ntmps35
    go_wp2_with fail
    go_quiet ((go_at_call 76; exact Calls.quiet_of_same ((HA.out _).mono fun e w1 h => ⟨h.1, h.2.symm⟩)))
    go_wp2_with fail
    go_ret
    exact ⟨by simp, below_drewN HB1.out _⟩
theorem may_to : ∀ n, MayTo n
  | 0 => fun _ h => absurd h (Nat.not_lt_zero _)
  | n + 1 => may_step n (may_to n)
theorem mayExpr_any (x : Ex) (p : Option Addr) (c N : Nat) (w : World) (hN : N ≤ w.heap.size) (h : x.Ok w N p) :
    Calls Tryz.prog 35 #[x.val p c] w fun e w' => e = .returned (.bool x.may) ∧ Below w.heap.size w w' :=
  may_to _ x (Nat.lt_succ_self _) p c N w hN h
end Go.Proofs.YtlhbledakddbbaaGreatDoor
/- Rows of bytes of the call's own, also such as were made of a text (their end bears a mark): appends. Over any program. -/
namespace Go.Proofs.YtlhbledakddbbaaGreatDoor
open Go Go.RowKit

/-- no cell of the row is frozen -/
def Free (cur : Array Value) (fz : Nat × Nat) : Prop := fz.2 = 0 ∨ cur.size ≤ fz.1
/-- a row of bytes that the call has made; a mark behind its end may lie there -/
def OwnT (w : World) (base : Nat) (e : TypeId) (v : Value) (n : Nat) (xs : List Value) : Prop :=
  xs.length = n ∧ ((v = .slice none 0 0 ∧ n = 0) ∨
    ∃ g cap cur fz, v = .slice (some ⟨g, 0, none⟩) n cap ∧ base ≤ g ∧ w.heap[g]? = some (.cells cur e fz) ∧ Free cur fz ∧ n ≤ cap ∧ cap ≤ maxLen ∧ cur.size = cap ∧ cur.toList.take n = xs)
theorem OwnT.nil (w : World) (base : Nat) (e : TypeId) : OwnT w base e (.slice none 0 0) 0 [] := ⟨rfl, .inl ⟨rfl, rfl⟩⟩
theorem OwnT.kind {w : World} {B : Nat} {e : TypeId} {v : Value} {n : Nat} {xs : List Value} (h : OwnT w B e v n xs) : ∀ g, v.ownBlock = some g → ∃ c fz, w.heap[g]? = some (.cells c e fz) := by
  intro g hg
  rcases h.2 with ⟨rfl, _⟩ | ⟨g', cap, cur, fz, rfl, _, hgg, _⟩
  · simp [Value.ownBlock] at hg
  · simp [Value.ownBlock] at hg
    subst hg
    exact ⟨cur, fz, hgg⟩
theorem OwnT.alloc {w : World} {B : Nat} {e : TypeId} {v : Value} {n : Nat} {xs : List Value} (h : OwnT w B e v n xs) (o : Obj) : OwnT (w.alloc o) B e v n xs := by
  obtain ⟨h1, h2⟩ := h
  refine ⟨h1, ?_⟩
  rcases h2 with h2 | ⟨g, cap, cur, fz, q1, q2, q3, q4⟩
  · exact .inl h2
  · exact .inr ⟨g, cap, cur, fz, q1, q2, (Below.heap_alloc _ _ _ (lt_of_block q3)).trans q3, q4⟩
theorem OwnT.cells {w : World} {B : Nat} {e : TypeId} {g n cap : Nat} {xs : List Value} (h : OwnT w B e (.slice (some ⟨g, 0, none⟩) n cap) n xs) : ∀ j u, xs[j]? = some u → w.cell? ((⟨g, 0, none⟩ : Addr).add j) = some u := by
  intro j u hu
  rcases h.2 with ⟨hv, _⟩ | ⟨g', cap', cur, fz, hv, _, hgg, _, _, _, _, htake⟩
  · cases hv
  · cases hv
    have hadd : (⟨g, 0, none⟩ : Addr).add j = ⟨g, j, none⟩ := by unfold Addr.add; split <;> simp_all
    rw [hadd, cell_of_row w g j cur e fz hgg]
    rw [← htake, List.getElem?_take] at hu
    split at hu
    · simpa using hu
    · cases hu
theorem storeCells_T {P : Program} (g o : Nat) (t : TypeId) (fz : Nat × Nat) : ∀ (vs : List Value) (i : Nat) (cur : Array Value) (w : World), w.heap[g]? = some (.cells cur t fz) → Free cur fz → o + i + vs.length ≤ cur.size → (∀ v ∈ vs, v.oneCell' = true) →
    ∃ cur', (storeCells ⟨g, o, none⟩ vs i).run P w = .ok () (w.setRow g cur') ∧ cur'.size = cur.size ∧ cur'.toList.take (o + i) = cur.toList.take (o + i) ∧ cur'.toList.take (o + i + vs.length) = cur.toList.take (o + i) ++ vs
  | [], i, cur, w, hg, _, _, _ => by
    refine ⟨cur, ?_, rfl, rfl, by simp⟩
    simp only [storeCells]
    rw [setRow_self w g cur t fz hg]
    rfl
  | v :: rest, i, cur, w, hg, hf, hl, h1 => by
    simp only [List.length_cons] at hl
    have hi : o + i < cur.size := by omega
    have hadd : (⟨g, o, none⟩ : Addr).add i = ⟨g, o + i, none⟩ := by unfold Addr.add; split <;> simp_all
    have hcell : w.cell? ⟨g, o + i, none⟩ = some cur[o + i] := by simp [World.cell?, hg, hi]
    have hfro : w.frozen? ⟨g, o + i, none⟩ = false := by
      obtain ⟨f1, f2⟩ := fz
      simp only [World.frozen?, hg, Bool.and_eq_false_iff, decide_eq_false_iff_not]
      rcases hf with h | h
      · right; simp only at h; omega
      · left; simp only at h; omega
    have hst : (store ((⟨g, o, none⟩ : Addr).add i) v).run P w = .ok () (w.setRow g (cur.setIfInBounds (o + i) v)) := by
      rw [hadd, run_store P w _ v _ (h1 v (by simp)), hcell]
      simp [hfro, setCell_eq_setRow w g (o + i) cur t fz v hg]
    obtain ⟨cur', hr, hz, ht, ht2⟩ := storeCells_T (P := P) g o t fz rest (i + 1) (cur.setIfInBounds (o + i) v) (w.setRow g (cur.setIfInBounds (o + i) v)) (setRow_heap w g cur _ t _ hg)
      (by rcases hf with h | h; · exact .inl h
          · exact .inr (by simpa using h)) (by simp; omega) (fun x hx => h1 x (by simp [hx]))
    have hs : (cur.setIfInBounds (o + i) v).toList.take (o + (i + 1)) = cur.toList.take (o + i) ++ [v] := by
      rw [Array.toList_setIfInBounds, show o + (i + 1) = (o + i) + 1 by omega, List.take_succ_eq_append_getElem (by simp; omega)]
      rw [List.take_set_of_le (Nat.le_refl _)]
      simp
    refine ⟨cur', ?_, by simpa using hz, ?_, ?_⟩
    · simp only [storeCells, Sem.run_bind, hst, Result.andThen_ok, hr, setRow_setRow]
    · have := congrArg (List.take (o + i)) ht
      rw [hs, List.take_take, Nat.min_eq_left (by omega), List.take_append_of_le_length (by simp; omega)] at this
      rw [this, List.take_take, Nat.min_self]
    · rw [List.length_cons, show o + i + (rest.length + 1) = o + (i + 1) + rest.length by omega, ht2, hs, List.append_assoc]; rfl
section
variable {P : Program} (w : World)
/-- the row that a growing append makes -/
theorem grown_T (base : Nat) (e : TypeId) (z : Value) (hz1 : z.cells.size = 1) (n m old : Nat) (xs news : List Value) (hx : xs.length = n) (hn : news.length = m) (h63 : n + m ≤ maxLen) (hbase : base ≤ w.heap.size) (row : Option Nat) :
    OwnT (w.drew.alloc (.cells (xs.toArray ++ news.toArray ++ Builtin.zeroCells z.cells (grownCap w (n + m) old e - (n + m))) e)) base e (.slice (some ⟨w.heap.size, 0, none⟩) (n + m) (grownCap w (n + m) old e)) (n + m) (xs ++ news) ∧
      w.grownBy (w.drew.alloc (.cells (xs.toArray ++ news.toArray ++ Builtin.zeroCells z.cells (grownCap w (n + m) old e - (n + m))) e)) row := by
  have hge := grownCap_ge w (n + m) old e
  have hcm : grownCap w (n + m) old e ≤ maxLen := grownCap_le_maxLen w (n + m) old e h63
  refine ⟨⟨by simp [hx, hn], .inr ⟨w.heap.size, _, _, (0, 0), rfl, hbase, heap_alloc_new w.drew _, .inl rfl, hge, hcm, ?_, ?_⟩⟩, ⟨rfl, rfl, rfl, by simp, fun k hk _ => Below.heap_alloc w.drew _ k hk⟩⟩
  · simp only [Array.size_append, List.size_toArray, size_zeroCells, hz1, hx, hn]
    omega
  · have hl : (xs ++ news).length = n + m := by simp [hx, hn]
    simp only [Array.toList_append, List.append_assoc]
    rw [← List.append_assoc, ← hl]
    exact List.take_left
/-- onto a row with room -/
theorem room_T (base : Nat) (e : TypeId) (g n cap m : Nat) (cur cur' : Array Value) (fz : Nat × Nat) (xs news : List Value) (hbg : base ≤ g) (hg : w.heap[g]? = some (.cells cur e fz)) (hf : Free cur fz) (hx : xs.length = n) (hn : news.length = m) (hroom : n + m ≤ cap) (hcm : cap ≤ maxLen) (hcs : cur.size = cap)
    (htake : cur.toList.take n = xs) (hz : cur'.size = cur.size) (ht : cur'.toList.take (n + m) = cur.toList.take n ++ news) :
    OwnT (w.setRow g cur') base e (.slice (some ⟨g, 0, none⟩) (n + m) cap) (n + m) (xs ++ news) ∧ w.grownBy (w.setRow g cur') (Value.ownBlock (.slice (some ⟨g, 0, none⟩) n cap)) :=
  ⟨⟨by simp [hx, hn], .inr ⟨g, cap, cur', fz, rfl, hbg, setRow_heap w g cur _ e _ hg, by rcases hf with h | h; · exact .inl h
                                                                                         · exact .inr (by omega), hroom, hcm, by omega, by rw [ht, htake]⟩⟩,
   ⟨rfl, rfl, rfl, by simp [World.setRow], fun k _ hk => setRow_other w g k _ (fun e => hk (by simp [Value.ownBlock, e]))⟩⟩
theorem append_T (base : Nat) (t ty e : TypeId) (i : TypeInfo) (ht : P.underlying t = some (.slice e)) (hi : P.info? e = some i) (hz : i.zero = some (.int .u8 0)) (hsize : i.size = 1) (hby : i.bytes = 1)
    (v : Value) (n : Nat) (xs : List Value) (hown : OwnT w base e v n xs)
    (a : Addr) (m c : Nat) (news : List Value) (hl : news.length = m) (hnews : ∀ j u, news[j]? = some u → w.cell? (a.add j) = some u) (h1 : ∀ u ∈ news, u.oneCell' = true)
    (h63 : n + m ≤ maxLen) (hbytes : n + m ≤ 140737488355328) (hbase : base ≤ w.heap.size) :
    ∃ v' w', (Builtin.append_ #[t, t] ty #[v, .slice (some a) m c]).run P w = .ok v' w' ∧ OwnT w' base e v' (n + m) (xs ++ news) ∧ w.grownBy w' v.ownBlock := by
  have hsmall : n + m ≤ 9223372036854775807 := by simp only [maxLen] at h63; omega
  have hl' : news.length = m * i.size := by rw [hsize]; omega
  rcases hown.2 with ⟨rfl, rfl⟩ | ⟨g, cap, cur, fz, rfl, hbg, hg, hf, hnc, hcm, hcs, htake⟩
  · have hx : xs = [] := List.eq_nil_of_length_eq_zero hown.1
    subst hx
    by_cases hm : m = 0
    · subst hm
      have hn : news = [] := List.eq_nil_of_length_eq_zero hl
      subst hn
      refine ⟨.slice none 0 0, w, ?_, OwnT.nil w base e, ⟨rfl, rfl, rfl, Nat.le_refl _, fun _ _ _ => rfl⟩⟩
      simp [Builtin.append_, run_underlying ht, sizeOf, typeInfo, hi, Builtin.lenOf, Builtin.firstCells, loadCells, loadCellsFrom]
    · have hr := run_append_nil (P := P) w t ty e i (.int .u8 0) ht hi hz a m c news hl' hnews (by omega) (by omega) (by rw [hby]; omega)
      have hgr := grown_T w base e (.int .u8 0) rfl 0 m 0 [] news rfl hl h63 hbase (Value.ownBlock (.slice none 0 0))
      simp only [Nat.zero_add, List.nil_append, Array.empty_append] at hgr ⊢
      exact ⟨_, _, hr, hgr.1, hgr.2⟩
  · by_cases hroom : n + m ≤ cap
    · have hfc := run_firstCells_some (P := P) w i.size m a m c news hl' hnews
      obtain ⟨cur', hst, hz', _, ht2⟩ := storeCells_T (P := P) g n e fz news 0 cur w hg hf (by omega) h1
      simp only [Nat.add_zero, hl] at ht2
      have hq := room_T w base e g n cap m cur cur' fz xs news hbg hg hf hown.1 hl hroom hcm hcs htake hz' ht2
      refine ⟨_, _, ?_, hq.1, hq.2⟩
      rw [hsize] at hfc
      simp [Builtin.append_, run_underlying ht, sizeOf, typeInfo, hi, hsize, Builtin.lenOf, hroom, hfc, Addr.add_lit, hst]
    · have hr := run_append_grow (P := P) w t ty e i (.int .u8 0) ht hi hz ⟨g, 0, none⟩ n cap xs (by rw [hsize]; have := hown.1; omega) hown.cells a m c news hl' hnews (by omega) (by omega) (growslice_fits (by omega) (by rw [hby]; omega))
      have hgr := grown_T w base e (.int .u8 0) rfl n m cap xs news hown.1 hl h63 hbase (Value.ownBlock (.slice (some ⟨g, 0, none⟩) n cap))
      exact ⟨_, _, hr, hgr.1, hgr.2⟩
theorem append_str_T (base : Nat) (t u ty e : TypeId) (i : TypeInfo) (ht : P.underlying t = some (.slice e)) (hu : P.underlying u = some .string) (hi : P.info? e = some i) (hz : i.zero = some (.int .u8 0))
    (hsize : i.size = 1) (hby : i.bytes = 1)
    (v : Value) (n : Nat) (xs : List Value) (hown : OwnT w base e v n xs) (s : ByteArray)
    (h63 : n + s.size ≤ maxLen) (hbytes : n + s.size ≤ 140737488355328) (hbase : base ≤ w.heap.size) :
    ∃ v' w', (Builtin.append_ #[t, u] ty #[v, .string s]).run P w = .ok v' w' ∧ OwnT w' base e v' (n + s.size) (xs ++ Lib.strCells s) ∧ w.grownBy w' v.ownBlock := by
  have hsmall : n + s.size ≤ 9223372036854775807 := by simp only [maxLen] at h63; omega
  rcases hown.2 with ⟨rfl, rfl⟩ | ⟨g, cap, cur, fz, rfl, hbg, hg, hf, hnc, hcm, hcs, htake⟩
  · have hx : xs = [] := List.eq_nil_of_length_eq_zero hown.1
    subst hx
    by_cases hm : s.size = 0
    · have hn : Lib.strCells s = [] := List.eq_nil_of_length_eq_zero (by rw [Lib.strCells_length]; exact hm)
      refine ⟨.slice none 0 0, w, ?_, by rw [hm, hn]; exact OwnT.nil w base e, ⟨rfl, rfl, rfl, Nat.le_refl _, fun _ _ _ => rfl⟩⟩
      have hfc := Lib.run_firstCells_string (P := P) w 1 s
      rw [hm] at hfc
      simp [Builtin.append_, run_underlying ht, run_underlying hu, sizeOf, typeInfo, hi, hsize, Builtin.lenOf, hm, hfc]
    · have hr := run_append_nil_string (P := P) w t u ty e i (.int .u8 0) ht hu hi hz s (by omega) (by omega) (by rw [hby]; omega)
      have hgr := grown_T w base e (.int .u8 0) rfl 0 s.size 0 [] (Lib.strCells s) rfl (Lib.strCells_length s) h63 hbase (Value.ownBlock (.slice none 0 0))
      simp only [Nat.zero_add, List.nil_append, Array.empty_append] at hgr ⊢
      have e1 : (s.data.map fun b => Value.int .u8 b.toNat) = (Lib.strCells s).toArray := by
        apply Array.ext'
        simp [Lib.strCells]
      rw [e1] at hr
      exact ⟨_, _, hr, hgr.1, hgr.2⟩
  · by_cases hroom : n + s.size ≤ cap
    · have hfc := Lib.run_firstCells_string (P := P) w 1 s
      obtain ⟨cur', hst, hz', _, ht2⟩ := storeCells_T (P := P) g n e fz (Lib.strCells s) 0 cur w hg hf (by rw [Lib.strCells_length]; omega) (Lib.strCells_oneCell s)
      simp only [Nat.add_zero, Lib.strCells_length] at ht2
      have hq := room_T w base e g n cap s.size cur cur' fz xs (Lib.strCells s) hbg hg hf hown.1 (Lib.strCells_length s) hroom hcm hcs htake hz' ht2
      refine ⟨_, _, ?_, hq.1, hq.2⟩
      simp [Builtin.append_, run_underlying ht, run_underlying hu, sizeOf, typeInfo, hi, hsize, Builtin.lenOf, hroom, hfc, Addr.add_lit, hst]
    · have hr := Lib.run_append_grow_string (P := P) w t u ty e i (.int .u8 0) ht hu hi hz ⟨g, 0, none⟩ n cap xs (by rw [hsize]; have := hown.1; omega) hown.cells s (by omega) (by omega) (by rw [hby]; exact growslice_fits (by omega) (by omega))
      have hgr := grown_T w base e (.int .u8 0) rfl n s.size cap xs (Lib.strCells s) hown.1 (Lib.strCells_length s) h63 hbase (Value.ownBlock (.slice (some ⟨g, 0, none⟩) n cap))
      exact ⟨_, _, hr, hgr.1, hgr.2⟩
theorem wp_append_T {o : Oper} {a : Act} {K : Act → World → Prop} {Q : Exit → Act → World → Prop} (s x : Operand) (t : TypeId)
    (ho : o.op = .call { callee := .builtin .append, args := #[s, x], argTypes := #[t, t] })
    (base : Nat) (e : TypeId) (i : TypeInfo) (ht : P.underlying t = some (.slice e)) (hi : P.info? e = some i) (hz : i.zero = some (.int .u8 0)) (hsize : i.size = 1) (hby : i.bytes = 1)
    (v : Value) (n : Nat) (xs : List Value) (hs : a.eval s = v) (hown : OwnT w base e v n xs)
    (ad : Addr) (m c : Nat) (news : List Value) (hx : a.eval x = .slice (some ad) m c) (hl : news.length = m) (hnews : ∀ j u, news[j]? = some u → w.cell? (ad.add j) = some u) (h1 : ∀ u ∈ news, u.oneCell' = true)
    (h63 : n + m ≤ maxLen) (hbytes : n + m ≤ 140737488355328) (hbase : base ≤ w.heap.size)
    (h : ∀ v' w', OwnT w' base e v' (n + m) (xs ++ news) → w.grownBy w' v.ownBlock → K (a.put o.dst v') w') : o.wp P a w K Q := by
  obtain ⟨v', w', hr, h2, h3⟩ := append_T (P := P) w base t o.type e i ht hi hz hsize hby v n xs hown ad m c news hl hnews h1 h63 hbytes hbase
  unfold Oper.wp execOp
  simp only [ho, resolve, invoke, builtin, Sem.run_bind, Sem.run_pure, Result.andThen_ok, List.map_toArray, List.map_cons, List.map_nil, hs, hx, hr]
  exact h v' w' h2 h3
theorem wpList_append_T {ops : Array Oper} {rest : List Oper} {o : Oper} {a : Act} {Q : Exit → Act → World → Prop} (hgd : o.guard = none) (s x : Operand) (t : TypeId)
    (ho : o.op = .call { callee := .builtin .append, args := #[s, x], argTypes := #[t, t] })
    (base : Nat) (e : TypeId) (i : TypeInfo) (ht : P.underlying t = some (.slice e)) (hi : P.info? e = some i) (hz : i.zero = some (.int .u8 0)) (hsize : i.size = 1) (hby : i.bytes = 1)
    (v : Value) (n : Nat) (xs : List Value) (hs : a.eval s = v) (hown : OwnT w base e v n xs)
    (ad : Addr) (m c : Nat) (news : List Value) (hx : a.eval x = .slice (some ad) m c) (hl : news.length = m) (hnews : ∀ j u, news[j]? = some u → w.cell? (ad.add j) = some u) (h1 : ∀ u ∈ news, u.oneCell' = true)
    (h63 : n + m ≤ maxLen) (hbytes : n + m ≤ 140737488355328) (hbase : base ≤ w.heap.size)
    (h : ∀ v' w', OwnT w' base e v' (n + m) (xs ++ news) → w.grownBy w' v.ownBlock → wpList P ops Q rest (a.put o.dst v') w') : wpList P ops Q (o :: rest) a w :=
  wpList_plain hgd fun _ hK => wp_append_T w s x t ho base e i ht hi hz hsize hby v n xs hs hown ad m c news hx hl hnews h1 h63 hbytes hbase fun v' w' h2 h3 => hK _ _ (h v' w' h2 h3)
theorem wpList_append_str_T {ops : Array Oper} {rest : List Oper} {o : Oper} {a : Act} {Q : Exit → Act → World → Prop} (hgd : o.guard = none) (sl x : Operand) (t u : TypeId)
    (ho : o.op = .call { callee := .builtin .append, args := #[sl, x], argTypes := #[t, u] })
    (base : Nat) (e : TypeId) (i : TypeInfo) (ht : P.underlying t = some (.slice e)) (hu : P.underlying u = some .string) (hi : P.info? e = some i) (hz : i.zero = some (.int .u8 0))
    (hsize : i.size = 1) (hby : i.bytes = 1)
    (v : Value) (n : Nat) (xs : List Value) (hs : a.eval sl = v) (hown : OwnT w base e v n xs) (s : ByteArray) (hx : a.eval x = .string s)
    (h63 : n + s.size ≤ maxLen) (hbytes : n + s.size ≤ 140737488355328) (hbase : base ≤ w.heap.size)
    (h : ∀ v' w', OwnT w' base e v' (n + s.size) (xs ++ Lib.strCells s) → w.grownBy w' v.ownBlock → wpList P ops Q rest (a.put o.dst v') w') : wpList P ops Q (o :: rest) a w := by
  refine wpList_plain hgd fun K hK => ?_
  obtain ⟨v', w', hr, h2, h3⟩ := append_str_T (P := P) w base t u o.type e i ht hu hi hz hsize hby v n xs hown s h63 hbytes hbase
  unfold Oper.wp execOp
  simp only [ho, resolve, invoke, builtin, Sem.run_bind, Sem.run_pure, Result.andThen_ok, List.map_toArray, List.map_cons, List.map_nil, hs, hx, hr]
  exact hK _ _ (h v' w' h2 h3)
end
/-- bytes made of a text -/
theorem conv_bytes {P : Program} (w : World) (src dst e : TypeId) (l : List UInt8) (hs : P.underlying src = some .string) (hd : P.underlying dst = some (.slice e)) (he : P.underlying e = some (.int .u8)) (h63 : l.length ≤ 1000000000) :
    ∃ v w', (convert src dst (.string (str l))).run P w = .ok v w' ∧ OwnT w' w.heap.size e v l.length (Lib.byteCells l) ∧ Below w.heap.size w w' ∧ w.heap.size ≤ w'.heap.size := by
  have hsz := size_str l
  refine ⟨_, _, run_bytes_of_string w src dst e (str l) hs hd he, ⟨by simp [Lib.byteCells], .inr ⟨w.heap.size, _, _, _, by rw [hsz], Nat.le_refl _, heap_alloc_new w.drew _, ?_, ?_, ?_, ?_, ?_⟩⟩, (Below.refl _ w).drew.alloc (by simp) _, by simp⟩
  · exact .inr (Nat.le_refl _)
  · exact grownCap_ge _ _ _ _
  · exact grownCap_le_maxLen _ _ _ _ (by simp only [maxLen]; omega)
  · have h1 := grownCap_ge w l.length 0 e
    have h2 : (str l).data.size = l.length := by simp [str]
    simp only [bytesRow, Array.size_append, Array.size_map, Array.size_replicate, h2, hsz]
    omega
  · have h2 : (str l).data.toList = l := rfl
    simp only [bytesRow, Array.toList_append, Array.toList_map, h2]
    rw [List.take_append_of_le_length (by simp)]
    rw [List.take_of_length_le (by simp)]
    rfl
end Go.Proofs.YtlhbledakddbbaaGreatDoor
/- A map whose keys are ints and whose values are structs of a text, made by a call out of a literal: what a look-up in it comes to. Over any program. -/
namespace Go.Proofs.YtlhbledakddbbaaGreatDoor
open Go Go.RowKit

/-- Entries at these keys, one function each, in this order. -/
def fes : Nat → List (Int × List UInt8) → List MapEntry
  | _, [] => []
  | i, x :: r => { key := .int .i64 x.1, val := .agg #[.string (str x.2)], born := i } :: fes (i + 1) r
/-- The function at a key. -/
def fat : List (Int × List UInt8) → Int → Option (List UInt8)
  | [], _ => none
  | p :: r, x => if x = p.1 then some p.2 else fat r x
def fval (l : List (Int × List UInt8)) (x : Int) : Value := match fat l x with | some f => .agg #[.string (str f)] | none => .agg #[.string ⟨#[]⟩]
/-- The map's block. -/
def fmap (l : List (Int × List UInt8)) : Obj := .map (fes 0 l).toArray l.length

theorem fes_append (i : Nat) (l : List (Int × List UInt8)) (x : Int × List UInt8) : fes i (l ++ [x]) = fes i l ++ [{ key := .int .i64 x.1, val := .agg #[.string (str x.2)], born := i + l.length }] := by
  induction l generalizing i with
  | nil => simp [fes]
  | cons y r ih => simp [fes, ih, Nat.add_comm, Nat.add_left_comm]

theorem find_fes (l : List (Int × List UInt8)) (x : Int) (i j : Nat) : ∃ n, Instr.findNow (.int .i64) (.int .i64 x) (fes i l) j = some ((fat l x).map fun f => (n, .agg #[.string (str f)])) := by
  induction l generalizing i j with
  | nil => exact ⟨0, rfl⟩
  | cons y r ih =>
    by_cases h : x = y.1
    · refine ⟨j, ?_⟩
      simp [fes, Instr.findNow, Instr.sameNow, fat, h]
    · obtain ⟨n, hn⟩ := ih (i + 1) (j + 1)
      refine ⟨n, ?_⟩
      have hb : (x == y.1) = false := by simpa using h
      simp [fes, Instr.findNow, Instr.sameNow, fat, h, hb, hn]

theorem set_push_last {α : Type} (a : Array α) (x y : α) : (a.push x).setIfInBounds a.size y = a.push y := by
  obtain ⟨l⟩ := a
  simp

section
variable {P : Program} {t k e : TypeId}
theorem run_look1_fmap (ht : P.underlying t = some (.map k e)) (hk : P.underlying k = some (.int .i64)) (hz : ∀ w, (zeroValue e).run P w = .ok (.agg #[.string ⟨#[]⟩]) w) (l : List (Int × List UInt8)) {w : World} {b : Nat} (hb : w.heap[b]? = some (fmap l)) (x : Int) :
    (Instr.lookup t (.map (some b)) (.int .i64 x) false).run P w = .ok (fval l x) w := by
  obtain ⟨n, hn⟩ := find_fes l x 0 0
  have hb' : w.heap[b]? = some (.map (fes 0 l).toArray l.length) := hb
  have hf := MapKept.run_findKey (P := P) (w := w) hk hn
  unfold fval
  cases h : fat l x with
  | none => simp [h] at hf; simp [Instr.lookup, run_underlying ht, MapKept.run_getObj_map hb', MapKept.run_checkKey hk (k := .int .i64 x) rfl, hf, hz, Result.andThen]
  | some f => simp [h] at hf; simp [Instr.lookup, run_underlying ht, MapKept.run_getObj_map hb', MapKept.run_checkKey hk (k := .int .i64 x) rfl, hf, Result.andThen]
/-- a literal's next entry -/
theorem run_put_fmap (ht : P.underlying t = some (.map k e)) (hk : P.underlying k = some (.int .i64)) (l : List (Int × List UInt8)) (w : World) (x : Int) (f : List UInt8) (hx : fat l x = none) :
    (Instr.mapUpdate t (.map (some w.heap.size)) (.int .i64 x) (.agg #[.string (str f)])).run P (w.alloc (fmap l)) = .ok () (w.alloc (fmap (l ++ [(x, f)]))) := by
  obtain ⟨n, hn⟩ := find_fes l x 0 0
  have hb : (w.alloc (fmap l)).heap[w.heap.size]? = some (.map (fes 0 l).toArray l.length) := (MapKept.heap_alloc w _).1
  have hf := MapKept.run_findKey (P := P) (w := w.alloc (fmap l)) hk hn
  simp [hx] at hf
  have e1 : ({ w.alloc (fmap l) with heap := (w.alloc (fmap l)).heap.setIfInBounds w.heap.size (fmap (l ++ [(x, f)])) } : World) = w.alloc (fmap (l ++ [(x, f)])) := by
    show ({ w with heap := (w.heap.push (fmap l)).setIfInBounds w.heap.size (fmap (l ++ [(x, f)])) } : World) = { w with heap := w.heap.push (fmap (l ++ [(x, f)])) }
    rw [set_push_last]
  simp [Instr.mapUpdate, run_underlying ht, MapKept.run_getObj_map hb, MapKept.run_checkKey hk (k := .int .i64 x) rfl, hf, MapKept.run_setObj_map _ hb, Result.andThen]
  rw [← e1]
  simp [fmap, fes_append]
end
/-- .. as a table's first n entries -/
def ft (T : List (Int × List UInt8)) (n : Nat) : Obj := fmap (T.take n)
theorem run_put_ft {P : Program} {t k e : TypeId} (ht : P.underlying t = some (.map k e)) (hk : P.underlying k = some (.int .i64)) (T : List (Int × List UInt8)) (n : Nat) (x : Int) (f : List UInt8) (hT : T[n]? = some (x, f)) (hx : fat (T.take n) x = none) (w : World) :
    (Instr.mapUpdate t (.map (some w.heap.size)) (.int .i64 x) (.agg #[.string (str f)])).run P (w.alloc (ft T n)) = .ok () (w.alloc (ft T (n + 1))) := by
  have h := run_put_fmap ht hk (T.take n) w x f hx
  have e1 : T.take (n + 1) = T.take n ++ [(x, f)] := by rw [List.take_add_one, hT]; rfl
  rw [← e1] at h
  exact h
/-- the signs -/
def signT : List (Int × List UInt8) := [(6, [43]), (7, [45]), (8, [42]), (9, [38]), (10, [124]), (11, [94]), (12, [60, 60]), (13, [62, 62]), (14, [62, 62, 62]), (15, [60, 60, 60]), (16, [62, 62, 62, 62]), (17, [61, 61]), (18, [33, 61]), (19, [60]), (20, [60, 61])]
def signOf (op : Int) : List UInt8 := match fat signT op with | some f => f | none => []
/-- What a call hands back that makes the map: it lies in a new block. -/
def SMapAt (w : World) (e : Ending) (w' : World) : Prop := ∃ b, e = .returned (.map (some b)) ∧ w'.heap[b]? = some (fmap signT) ∧ w.heap.size ≤ b ∧ Below w.heap.size w w'
theorem smapAt_new (w : World) : SMapAt w (.returned (.map (some w.heap.size))) (w.alloc (ft signT 15)) := by
  refine ⟨_, rfl, ?_, Nat.le_refl _, (Below.refl _ _).alloc (Nat.le_refl _) _⟩
  rw [(MapKept.heap_alloc w _).1, ft, List.take_of_length_le (by decide)]
set_option maxRecDepth 100000 in
set_option maxHeartbeats 3200000 in
theorem signs_any (w : World) : Calls Tryz.prog 79 #[] w (SMapAt w) := by
  have hmm := @run_makeMap Tryz.prog
  have i0 : ∀ wx : World, (Instr.mapUpdate 66 (.map (some wx.heap.size)) (.int .i64 6) (.agg #[.string ⟨#[43]⟩])).run Tryz.prog (wx.alloc (.map #[] 0)) = .ok () (wx.alloc (ft signT 1)) := fun wx => run_put_ft Tryz.underlying66 Tryz.underlying22 signT 0 6 [43] rfl rfl wx
  have i1 : ∀ wx : World, (Instr.mapUpdate 66 (.map (some wx.heap.size)) (.int .i64 7) (.agg #[.string ⟨#[45]⟩])).run Tryz.prog (wx.alloc (ft signT 1)) = .ok () (wx.alloc (ft signT 2)) := fun wx => run_put_ft Tryz.underlying66 Tryz.underlying22 signT 1 7 [45] rfl rfl wx
  have i2 : ∀ wx : World, (Instr.mapUpdate 66 (.map (some wx.heap.size)) (.int .i64 8) (.agg #[.string ⟨#[42]⟩])).run Tryz.prog (wx.alloc (ft signT 2)) = .ok () (wx.alloc (ft signT 3)) := fun wx => run_put_ft Tryz.underlying66 Tryz.underlying22 signT 2 8 [42] rfl rfl wx
  have i3 : ∀ wx : World, (Instr.mapUpdate 66 (.map (some wx.heap.size)) (.int .i64 9) (.agg #[.string ⟨#[38]⟩])).run Tryz.prog (wx.alloc (ft signT 3)) = .ok () (wx.alloc (ft signT 4)) := fun wx => run_put_ft Tryz.underlying66 Tryz.underlying22 signT 3 9 [38] rfl rfl wx
  have i4 : ∀ wx : World, (Instr.mapUpdate 66 (.map (some wx.heap.size)) (.int .i64 10) (.agg #[.string ⟨#[124]⟩])).run Tryz.prog (wx.alloc (ft signT 4)) = .ok () (wx.alloc (ft signT 5)) := fun wx => run_put_ft Tryz.underlying66 Tryz.underlying22 signT 4 10 [124] rfl rfl wx
  have i5 : ∀ wx : World, (Instr.mapUpdate 66 (.map (some wx.heap.size)) (.int .i64 11) (.agg #[.string ⟨#[94]⟩])).run Tryz.prog (wx.alloc (ft signT 5)) = .ok () (wx.alloc (ft signT 6)) := fun wx => run_put_ft Tryz.underlying66 Tryz.underlying22 signT 5 11 [94] rfl rfl wx
  have i6 : ∀ wx : World, (Instr.mapUpdate 66 (.map (some wx.heap.size)) (.int .i64 12) (.agg #[.string ⟨#[60, 60]⟩])).run Tryz.prog (wx.alloc (ft signT 6)) = .ok () (wx.alloc (ft signT 7)) := fun wx => run_put_ft Tryz.underlying66 Tryz.underlying22 signT 6 12 [60, 60] rfl rfl wx
  have i7 : ∀ wx : World, (Instr.mapUpdate 66 (.map (some wx.heap.size)) (.int .i64 13) (.agg #[.string ⟨#[62, 62]⟩])).run Tryz.prog (wx.alloc (ft signT 7)) = .ok () (wx.alloc (ft signT 8)) := fun wx => run_put_ft Tryz.underlying66 Tryz.underlying22 signT 7 13 [62, 62] rfl rfl wx
  have i8 : ∀ wx : World, (Instr.mapUpdate 66 (.map (some wx.heap.size)) (.int .i64 14) (.agg #[.string ⟨#[62, 62, 62]⟩])).run Tryz.prog (wx.alloc (ft signT 8)) = .ok () (wx.alloc (ft signT 9)) := fun wx => run_put_ft Tryz.underlying66 Tryz.underlying22 signT 8 14 [62, 62, 62] rfl rfl wx
  have i9 : ∀ wx : World, (Instr.mapUpdate 66 (.map (some wx.heap.size)) (.int .i64 15) (.agg #[.string ⟨#[60, 60, 60]⟩])).run Tryz.prog (wx.alloc (ft signT 9)) = .ok () (wx.alloc (ft signT 10)) := fun wx => run_put_ft Tryz.underlying66 Tryz.underlying22 signT 9 15 [60, 60, 60] rfl rfl wx
  have i10 : ∀ wx : World, (Instr.mapUpdate 66 (.map (some wx.heap.size)) (.int .i64 16) (.agg #[.string ⟨#[62, 62, 62, 62]⟩])).run Tryz.prog (wx.alloc (ft signT 10)) = .ok () (wx.alloc (ft signT 11)) := fun wx => run_put_ft Tryz.underlying66 Tryz.underlying22 signT 10 16 [62, 62, 62, 62] rfl rfl wx
  have i11 : ∀ wx : World, (Instr.mapUpdate 66 (.map (some wx.heap.size)) (.int .i64 17) (.agg #[.string ⟨#[61, 61]⟩])).run Tryz.prog (wx.alloc (ft signT 11)) = .ok () (wx.alloc (ft signT 12)) := fun wx => run_put_ft Tryz.underlying66 Tryz.underlying22 signT 11 17 [61, 61] rfl rfl wx
  have i12 : ∀ wx : World, (Instr.mapUpdate 66 (.map (some wx.heap.size)) (.int .i64 18) (.agg #[.string ⟨#[33, 61]⟩])).run Tryz.prog (wx.alloc (ft signT 12)) = .ok () (wx.alloc (ft signT 13)) := fun wx => run_put_ft Tryz.underlying66 Tryz.underlying22 signT 12 18 [33, 61] rfl rfl wx
  have i13 : ∀ wx : World, (Instr.mapUpdate 66 (.map (some wx.heap.size)) (.int .i64 19) (.agg #[.string ⟨#[60]⟩])).run Tryz.prog (wx.alloc (ft signT 13)) = .ok () (wx.alloc (ft signT 14)) := fun wx => run_put_ft Tryz.underlying66 Tryz.underlying22 signT 13 19 [60] rfl rfl wx
  have i14 : ∀ wx : World, (Instr.mapUpdate 66 (.map (some wx.heap.size)) (.int .i64 20) (.agg #[.string ⟨#[60, 61]⟩])).run Tryz.prog (wx.alloc (ft signT 14)) = .ok () (wx.alloc (ft signT 15)) := fun wx => run_put_ft Tryz.underlying66 Tryz.underlying22 signT 14 20 [60, 61] rfl rfl wx
  go_enter Tryz.func79, Tryz.ntmps79
  go_wp2
  go_ret
  exact smapAt_new w
end Go.Proofs.YtlhbledakddbbaaGreatDoor
/- Texts of expressions; rows of bytes that grow. -/
namespace Go.Proofs.YtlhbledakddbbaaGreatDoor
open Go.RowKit

def textOf (op : Int) (x : Nat) (nm : List UInt8) (ts : List (List UInt8)) : List UInt8 :=
  if op = 1 then Lib.decDigits x else if op = 2 then nm else if op = 3 then nm ++ [91] ++ ts.getD 0 [] ++ [93] else if op = 4 then [126] ++ ts.getD 0 [] else if op = 5 then [45] ++ ts.getD 0 []
  else if op = 21 then [112, 105, 99, 107] ++ [40] ++ Lib.join ts [44, 32] ++ [41] else [40] ++ ts.getD 0 [] ++ [32] ++ signOf op ++ [32] ++ ts.getD 1 [] ++ [41]
mutual
def Ex.text : Ex → List UInt8
  | .mk op x nm a => textOf op x nm a.texts
def Exs.texts : Exs → List (List UInt8)
  | .nil => []
  | .cons x r => x.text :: r.texts
end
theorem info_u8 : (Tryz.prog.info? 5).map (fun i => (i.zero, i.size, i.bytes)) = some (some (.int .u8 0), 1, 1) := by kernel_rfl
theorem info_parts' : ∃ i, Tryz.prog.info? 5 = some i ∧ i.zero = some (.int .u8 0) ∧ i.size = 1 ∧ i.bytes = 1 := by
  obtain ⟨i0, hi, hz0, hz1, hz2⟩ := info_parts info_u8
  exact ⟨i0, hi, hz0, hz1, hz2⟩
theorem conv_nil (w : World) : (convert 83 9 (.slice none 0 0)).run Tryz.prog w = .ok (.string (str [])) w := by kernel_rfl
/-- a row of bytes that the call has made -/
def BRow (B : Nat) (w : World) (l : List UInt8) (v : Value) : Prop := OwnT w B 5 v l.length (Lib.byteCells l)
theorem BRow.nil (B : Nat) (w : World) : BRow B w [] (.slice none 0 0) := ⟨rfl, .inl ⟨rfl, rfl⟩⟩
theorem BRow.base {B : Nat} {w : World} {l : List UInt8} {v : Value} (h : BRow B w l v) : ∀ k, v.ownBlock = some k → B ≤ k := by
  intro k hk
  rcases h.2 with ⟨rfl, _⟩ | ⟨g, cap, cur, fz, rfl, hg, _⟩
  · cases hk
  · have : g = k := by simpa [Value.ownBlock] using hk
    omega
theorem BRow.later {B : Nat} {w w' : World} {l : List UInt8} {v : Value} (h : BRow B w l v) (hB : Below w.heap.size w w') : BRow B w' l v := by
  obtain ⟨h2, h3⟩ := h
  refine ⟨h2, ?_⟩
  rcases h3 with h3 | ⟨g, cap, cur, fz, q1, q2, q3, q4⟩
  · exact .inl h3
  · exact .inr ⟨g, cap, cur, fz, q1, q2, (hB.block g (lt_of_block q3)).trans q3, q4⟩
theorem BRow.conv {B : Nat} {w : World} {l : List UInt8} {v : Value} (h : BRow B w l v) : (convert 83 9 v).run Tryz.prog w = .ok (.string (str l)) w := by
  obtain ⟨hl, ⟨rfl, h0⟩ | ⟨g, cap, cur, fz, rfl, hg, hh, hfr, hn, hcap, hcs, ht⟩⟩ := h
  · have := List.length_eq_zero_iff.1 h0; subst this; exact conv_nil w
  · exact run_convert_bytes_back (P := Tryz.prog) w 83 9 5 ⟨g, 0, none⟩ cap l Tryz.underlying83 Tryz.underlying5 Tryz.underlying9 (fun j hj => by
      have e : (⟨g, 0, none⟩ : Addr).add j = ⟨g, j, none⟩ := by
        rcases j with _ | j
        · rfl
        · simp [Addr.add]
      have h1 : (Lib.byteCells l)[j]? = some (.int .u8 l[j].toNat) := by rw [Lib.byteCells, List.getElem?_map, List.getElem?_eq_getElem hj]; rfl
      rw [← ht, List.getElem?_take_of_lt (by omega), Array.getElem?_toList] at h1
      rw [e]; simp [World.cell?, hh, h1])
/-- what a maker of bytes leaves as it was -/
def Fr (B : Nat) (w w' : World) : Prop := Below B w w' ∧ Lib.OthersKept 5 none w w'
theorem Fr.refl (B : Nat) (w : World) : Fr B w w := ⟨Below.refl _ _, Lib.OthersKept.refl _ _ _⟩
theorem Fr.trans {B : Nat} {a b c : World} (h : Fr B a b) (k : Fr B b c) : Fr B a c := ⟨h.1.trans k.1, h.2.trans k.2⟩
theorem Fr.drew {B : Nat} {a b : World} (h : Fr B a b) : Fr B a b.drew := ⟨h.1.drew, h.2.drew⟩
theorem Fr.alloc {B : Nat} {a b : World} (h : Fr B a b) (hb : B ≤ b.heap.size) (o : Obj) : Fr B a (b.alloc o) := ⟨h.1.alloc hb o, h.2.alloc o⟩
theorem Fr.of_below {B : Nat} {w w' : World} (h : Below w.heap.size w w') (hb : B ≤ w.heap.size) : Fr B w w' := ⟨h.mono hb, (Lib.OthersKept.refl _ _ w).below h⟩
/-- a cell of another make stays -/
theorem Fr.cell {B : Nat} {w w' : World} (h : Fr B w w') {g : Nat} {cs : Array Value} {t : TypeId} {fz : Nat × Nat} (hg : w.heap[g]? = some (.cells cs t fz)) (ht : t ≠ 5) : w'.heap[g]? = some (.cells cs t fz) :=
  h.2 g _ hg (by simp) (fun c fz' e => ht (by injection e))
theorem brow_app {B : Nat} {w w1 : World} {v v' : Value} {bs : List UInt8} {c : UInt8} {o : Obj} (h : BRow B w bs v) (hB : B ≤ w.heap.size) (hown : OwnT w1 B 5 v' (bs.length + 1) (Lib.byteCells bs ++ [.int .u8 (c.toNat : Int)])) (hg : (w.alloc o).grownBy w1 v.ownBlock) :
    BRow B w1 (bs ++ [c]) v' ∧ Fr B w w1 := by
  refine ⟨?_, ?_, ?_⟩
  · unfold BRow; rw [List.length_append]; simpa [Lib.byteCells] using hown
  · exact ((Below.refl B w).alloc hB o).grown hg (by simp; omega) (fun k hk => h.base k hk)
  · exact ((Lib.OthersKept.refl _ _ w).alloc o).grown hg (fun k hk => by
      obtain ⟨c, fz, hc⟩ := OwnT.kind h k hk
      exact ⟨c, fz, (Below.heap_alloc _ _ _ (lt_of_block hc)).trans hc⟩)
theorem brow_apps {B : Nat} {w w1 : World} {v v' : Value} {bs : List UInt8} {s : ByteArray} (h : BRow B w bs v) (hB : B ≤ w.heap.size) (hown : OwnT w1 B 5 v' (bs.length + s.size) (Lib.byteCells bs ++ Lib.strCells s)) (hg : w.grownBy w1 v.ownBlock) :
    BRow B w1 (bs ++ s.data.toList) v' ∧ Fr B w w1 := by
  refine ⟨?_, ?_, ?_⟩
  · unfold BRow; rw [List.length_append, ← size_len]; simpa [Lib.byteCells, Lib.strCells] using hown
  · exact (Below.refl B w).grown hg hB (fun k hk => h.base k hk)
  · exact (Lib.OthersKept.refl _ _ w).grown hg (fun k hk => OwnT.kind h k hk)
/-- what the makers of texts lean on -/
structure TEnv (B m : Nat) (w : World) : Prop where
  mp : w.heap[m]? = some (fmap signT)
  mB : m < B
  gl : Lib.TabBelow Tryz.prog B w "internal/strconv.uint64pow10" .u64 Lib.pow10Tab
  bw : B ≤ w.heap.size
theorem TEnv.later {B m : Nat} {w w' : World} (h : TEnv B m w) (hB : Below B w w') : TEnv B m w' :=
  ⟨(hB.block m h.mB).trans h.mp, h.mB, fun w2 h2 => h.gl w2 (hB.trans h2), Nat.le_trans h.bw hB.size⟩

set_option maxHeartbeats 12800000 in
set_option maxRecDepth 100000 in
theorem innerAppendUint_any (B u : Nat) (bs : List UInt8) (v : Value) (m : Nat) (w : World) (hu64 : u < 18446744073709551616) (h : BRow B w bs v) (he : TEnv B m w) (hl : bs.length ≤ 1000000000) :
    Calls Tryz.prog 141 #[v, .int .u64 u, .int .i64 10] w fun e w' => (∃ v', e = .returned v' ∧ BRow B w' (bs ++ Lib.decDigits u) v') ∧ Fr B w w' := by
  obtain ⟨i0, hi, hz0, hz1, hz2⟩ := info_parts'
  have htab := he.gl.here
  have hbw := he.bw
  have HH := Lib.hid h
  by_cases hu : u < 100
  · have hd : (Lib.decDigits u).length ≤ 20 := by rw [Lib.decDigits_length]; exact Lib.nDigits_le20 u hu64
    have hsz := size_str (Lib.decDigits u)
    have HS := Lib.hid (Tryz.internal_strconv_small u hu)
    have HD := Lib.hid hd
    have hown_ := h
    unfold BRow at hown_
    obtain ⟨DS, hDS⟩ : ∃ DS, DS = Lib.decDigits u := ⟨_, rfl⟩
    rw [← hDS] at HS HD hsz ⊢
    clear h he htab hd hDS
    go_enter Tryz.func141, Tryz.ntmps141
    go_wp2_with (first
      | (go_at_call 121; refine (HS.out _).mono ?_; rintro e w' ⟨rfl, rfl⟩)
      | (at_builtin; refine wpList_append_str_T _ rfl _ _ 83 9 rfl B 5 i0 Tryz.underlying83 Tryz.underlying9 hi hz0 hz1 hz2 _ _ _ rfl hown_ (str DS) rfl ?y1c ?y1d ?y1e ?_))
    case y1c => have := HD.out; unfold maxLen; omega
    case y1d => have := HD.out; omega
    case y1e => exact hbw
    intro v2 w2 hown hgrow
    have hap := brow_apps HH.out hbw hown hgrow
    have HR := Lib.hid hap.1
    have HF := Lib.hid hap.2
    clear hown hgrow hap hown_
    rw [str_data] at HR
    go_wp2_with fail
    go_ret
    exact ⟨⟨_, rfl, HR.out⟩, HF.out⟩
  · have hu1 : 1 ≤ u := by omega
    have hnd20 : Lib.nDigits u ≤ 20 := by have := Lib.numDigits_eq u hu1 hu64; split at this <;> omega
    have hal : Tryz.prog.arrayLen 156 = 24 := by simp [Program.arrayLen, Tryz.underlying156]
    have hsl : ∀ W, (Instr.sliceAt 156 (.pointer (some ⟨w.heap.size, 0, none⟩)) none (some (.int .i64 (Lib.nDigits u : Int))) none).run Tryz.prog W = .ok (.slice (some ⟨w.heap.size, 0, none⟩) (Lib.nDigits u) 24) W := fun W => by
      rw [run_sliceAt_array_h W 156 ⟨w.heap.size, 0, none⟩ (by simp [Program.arrayLen, Program.elem, Tryz.underlying156]) .i64 (Lib.nDigits u : Int) (by omega) (by rw [hal]; omega)]
      go_simp
    have hH0 := Lib.holds_zero0 w 156 (Lib.nDigits u) (by omega)
    have hfmt := Tryz.internal_strconv_formatBase10 w.heap.size 0 24 u (Array.replicate (Lib.nDigits u) 0) (w.alloc (.cells Lib.zeros24 156)) hH0 (by rw [Array.size_replicate]; exact Lib.lt_pow_nDigits u) hu64 (by rw [Array.size_replicate]; omega)
    rw [Array.size_replicate] at hfmt
    have HH0 := Lib.hid hH0
    have iu : (100 : Int) ≤ (u : Int) := by omega
    clear hH0 hal
    go_enter Tryz.func141, Tryz.ntmps141
    go_wp2_with (first
      | (go_at_call 122; refine (Tryz.internal_strconv_numDigits u hu1 hu64 _ (Lib.tabIs_alloc htab _)).mono ?_; rintro e w' ⟨rfl, rfl⟩))
    refine hfmt.mono ?_
    rintro e w' ⟨rfl, k, v', dk, rfl, hF⟩
    obtain ⟨os, eo⟩ := Lib.fin_at w (.cells Lib.zeros24 156) dk k 0
    have hnx2 : Below w.heap.size w ((Go.Sort.putRow (fun (b : UInt8) => Value.int .u8 (b.toNat : Int)) (w.alloc (.cells Lib.zeros24 156)) w.heap.size 0 dk).drewN k) := by rw [eo]; exact Lib.below_grow w.heap.size w (Nat.le_refl _) k os
    have hcells : ∀ j u', (Lib.byteCells (Lib.decDigits u))[j]? = some u' → ((Go.Sort.putRow (fun (b : UInt8) => Value.int .u8 (b.toNat : Int)) (w.alloc (.cells Lib.zeros24 156)) w.heap.size 0 dk).drewN k).cell? ((⟨w.heap.size, 0, none⟩ : Addr).add j) = some u' := fun j u' hj => by
      have hj' : j < (Lib.decDigits u).length := by
        have := (List.getElem?_eq_some_iff.1 hj).1
        simpa [Lib.byteCells] using this
      rw [Lib.byteCells, List.getElem?_map, List.getElem?_eq_getElem hj'] at hj
      simp only [Option.map_some, Option.some.injEq] at hj
      rw [← hj, Lib.row_is_numeral hF j hj', Lib.add_plain, World.cell?_drewN]
      exact Go.Sort.cell?_putRow (fun (b : UInt8) => Value.int .u8 (b.toNat : Int)) _ w.heap.size 0 _ dk HH0.out (by rw [hF.size, Array.size_replicate]) j (by rw [hF.size]; rw [Lib.decDigits_length] at hj'; exact hj')
    have HB := Lib.hid hnx2
    have HC := Lib.hid hcells
    generalize (Go.Sort.putRow (fun (b : UInt8) => Value.int .u8 (b.toNat : Int)) (w.alloc (.cells Lib.zeros24 156)) w.heap.size 0 dk).drewN k = W2 at HB HC ⊢
    have HR2 := Lib.hid (HH.out.later HB.out)
    have hown_ := HR2.out
    unfold BRow at hown_
    have hB2 : B ≤ W2.heap.size := Nat.le_trans hbw HB.out.size
    have HN := Lib.hid (show (Lib.byteCells (Lib.decDigits u)).length = Lib.nDigits u by rw [← Lib.decDigits_length]; simp [Lib.byteCells])
    clear eo HH0 hfmt hF hnx2 hcells h he
    go_wp2_with (at_builtin; refine wpList_append_T _ rfl _ _ 83 rfl B 5 i0 Tryz.underlying83 hi hz0 hz1 hz2 _ _ _ rfl hown_ ⟨w.heap.size, 0, none⟩ (Lib.nDigits u) 24 (Lib.byteCells (Lib.decDigits u)) rfl HN.out HC.out ?y2b ?y2c ?y2d ?y2e ?_)
    case y2b => intro x hx; simp only [Lib.byteCells, List.mem_map] at hx; obtain ⟨b, _, rfl⟩ := hx; rfl
    case y2c => unfold maxLen; omega
    case y2d => omega
    case y2e => exact hB2
    intro v3 w3 hown hgrow
    have HR3 : Hid (BRow B w3 (bs ++ Lib.decDigits u) v3) := Lib.hid (by
      unfold BRow
      rw [List.length_append, Lib.decDigits_length]
      simpa [Lib.byteCells] using hown)
    have HF3 : Hid (Fr B w w3) := Lib.hid ((Fr.of_below HB.out hbw).trans ⟨(Below.refl B W2).grown hgrow hB2 (fun k hk => HR2.out.base k hk), (Lib.OthersKept.refl _ _ W2).grown hgrow (fun k hk => OwnT.kind HR2.out k hk)⟩)
    clear hown hgrow hown_
    go_wp2_with fail
    go_ret
    exact ⟨⟨_, rfl, HR3.out⟩, HF3.out⟩
set_option maxHeartbeats 1600000 in
theorem appendUint_any (B u : Nat) (bs : List UInt8) (v : Value) (m : Nat) (w : World) (hu : u < 18446744073709551616) (h : BRow B w bs v) (he : TEnv B m w) (hl : bs.length ≤ 1000000000) :
    Calls Tryz.prog 118 #[v, .int .u64 u, .int .i64 10] w fun e w' => (∃ v', e = .returned v' ∧ BRow B w' (bs ++ Lib.decDigits u) v') ∧ Fr B w w' := by
  have HC := Lib.hid (innerAppendUint_any B u bs v m w hu h he hl)
  clear h he
  go_enter Tryz.func118, Tryz.ntmps118
  go_wp2_with fail
  refine HC.out.mono ?_
  rintro e w2 ⟨⟨v', rfl, hR⟩, hF⟩
  have HR := Lib.hid hR
  have HF := Lib.hid hF
  clear hR hF
  go_wp2_with fail
  go_ret
  exact ⟨⟨v', rfl, HR.out⟩, HF.out⟩
end Go.Proofs.YtlhbledakddbbaaGreatDoor
/- The document's names. -/
namespace Go.Proofs.YtlhbledakddbbaaGreatDoor
open Go.RowKit

def noneOf (l : List UInt8) (k : Nat) : Prop := ∀ x ∈ ownWords.take k, (x == l) = false
theorem noneOf.step {l : List UInt8} {k : Nat} (h : noneOf l k) (x : List UInt8) (hx : ownWords[k]? = some x) (he : (x == l) = false) : noneOf l (k + 1) := by
  intro y hy
  rw [List.take_add_one, hx] at hy
  rcases List.mem_append.1 hy with h1 | h1
  · exact h y h1
  · simp at h1; subst h1; exact he
theorem noneOf.no {l : List UInt8} (h : noneOf l 11) : ownB l = false := by
  refine decide_eq_false fun hm => ?_
  have := h l hm
  simp at this
theorem own_yes {l : List UInt8} {x : List UInt8} (k : Nat) (hx : ownWords[k]? = some x) (he : (x == l) = true) : ownB l = true := by
  refine decide_eq_true ?_
  rw [← beq_iff_eq.1 he]
  exact List.mem_of_getElem? hx
set_option maxHeartbeats 1600000 in

theorem rlet_any (c : UInt8) (w : World) : Calls Tryz.prog 95 #[.int .u8 (c.toNat : Int)] w fun e w' => e = .returned (.bool (isLet c)) ∧ w = w' := by
  have hb : c.toNat < 256 := c.toNat_lt
  unfold isLet
  by_cases h1 : 97 ≤ c.toNat
  · by_cases h2 : c.toNat ≤ 122
    · have e1 : decide ((97 : Int) ≤ (c.toNat : Int)) = true := decide_eq_true (by omega)
      have e2 : decide ((c.toNat : Int) ≤ 122) = true := decide_eq_true (by omega)
      go_enter Tryz.func95, Tryz.ntmps95
      go_wp2
      go_ret
      exact ⟨by simp [h1, h2], rfl⟩
    · have e1 : decide ((97 : Int) ≤ (c.toNat : Int)) = true := decide_eq_true (by omega)
      have e2 : decide ((c.toNat : Int) ≤ 122) = false := decide_eq_false (by omega)
      go_enter Tryz.func95, Tryz.ntmps95
      go_wp2
      go_ret
      exact ⟨by simp [h1, h2], rfl⟩
  · have e1 : decide ((97 : Int) ≤ (c.toNat : Int)) = false := decide_eq_false (by omega)
    go_enter Tryz.func95, Tryz.ntmps95
    go_wp2
    go_ret
    exact ⟨by simp [h1], rfl⟩
theorem rdig_any (c : UInt8) (w : World) : Calls Tryz.prog 133 #[.int .u8 (c.toNat : Int)] w fun e w' => e = .returned (.bool (isDig c)) ∧ w = w' := by
  have hb : c.toNat < 256 := c.toNat_lt
  unfold isDig
  by_cases h1 : 48 ≤ c.toNat
  · by_cases h2 : c.toNat ≤ 57
    · have e1 : decide ((48 : Int) ≤ (c.toNat : Int)) = true := decide_eq_true (by omega)
      have e2 : decide ((c.toNat : Int) ≤ 57) = true := decide_eq_true (by omega)
      go_enter Tryz.func133, Tryz.ntmps133
      go_wp2
      go_ret
      exact ⟨by simp [h1, h2], rfl⟩
    · have e1 : decide ((48 : Int) ≤ (c.toNat : Int)) = true := decide_eq_true (by omega)
      have e2 : decide ((c.toNat : Int) ≤ 57) = false := decide_eq_false (by omega)
      go_enter Tryz.func133, Tryz.ntmps133
      go_wp2
      go_ret
      exact ⟨by simp [h1, h2], rfl⟩
  · have e1 : decide ((48 : Int) ≤ (c.toNat : Int)) = false := decide_eq_false (by omega)
    go_enter Tryz.func133, Tryz.ntmps133
    go_wp2
    go_ret
    exact ⟨by simp [h1], rfl⟩
theorem rpart_any (c : UInt8) (w : World) : Calls Tryz.prog 97 #[.int .u8 (c.toNat : Int)] w fun e w' => e = .returned (.bool (isPart c)) ∧ w = w' := by
  have HA := Lib.hid (fun w => rlet_any c w)
  have HD := Lib.hid (fun w => rdig_any c w)
  have h95 : decide (c.toNat = 95) = ((c.toNat : Int) == 95) := by rw [Bool.eq_iff_iff]; simp; omega
  unfold isPart
  rw [h95]
  clear h95
  generalize isLet c = x at HA
  generalize isDig c = y at HD
  generalize e : ((c.toNat : Int) == 95) = z
  cases x <;> cases y <;> cases z <;>
  · go_enter Tryz.func97, Tryz.ntmps97
    go_wp2_with (first | (go_at_call 95; refine (HA.out _).mono ?_; rintro e w' ⟨rfl, rfl⟩) | (go_at_call 133; refine (HD.out _).mono ?_; rintro e w' ⟨rfl, rfl⟩))
    go_ret
    exact ⟨rfl, rfl⟩
set_option maxHeartbeats 1600000 in
theorem rown_any (s : ByteArray) (w : World) : Calls Tryz.prog 96 #[.string s] w fun e w' => e = .returned (.bool (ownB s.data.toList)) ∧ Below w.heap.size w w' := by
  rw [← Go.Lib.toList_data]
  go_enter Tryz.func96, Tryz.ntmps96
  go_wp2
  go_loop [4] (fun i => ∃ k : Nat, i = .int .i64 k ∧ k ≤ 11 ∧ Hid (noneOf s.toList k)) (fun i => 11 - (intOf i).toNat)
  case atStart => exact ⟨0, rfl, by omega, Lib.hid (fun y hy => by simp at hy)⟩
  case round =>
    obtain ⟨k, rfl, hk, hN⟩ := hrel
    rcases k with _|_|_|_|_|_|_|_|_|_|_|_|k
    · cases e : ([97, 114, 114, 97, 121] == s.toList)
      · have HS := Lib.hid (hN.out.step [97, 114, 114, 97, 121] rfl e)
        go_wp2
        go_round
        case rel => exact ⟨1, rfl, by omega, HS⟩
        case measure => simp [intOf]
      · have HS := Lib.hid (own_yes 0 rfl e)
        go_wp2
        go_ret
        exact ⟨ret_bool HS.out.symm, (Below.refl _ _).alloc (Nat.le_refl _) _⟩
    · cases e : ([101, 108, 115, 101] == s.toList)
      · have HS := Lib.hid (hN.out.step [101, 108, 115, 101] rfl e)
        go_wp2
        go_round
        case rel => exact ⟨2, rfl, by omega, HS⟩
        case measure => simp [intOf]
      · have HS := Lib.hid (own_yes 1 rfl e)
        go_wp2
        go_ret
        exact ⟨ret_bool HS.out.symm, (Below.refl _ _).alloc (Nat.le_refl _) _⟩
    · cases e : ([102, 110] == s.toList)
      · have HS := Lib.hid (hN.out.step [102, 110] rfl e)
        go_wp2
        go_round
        case rel => exact ⟨3, rfl, by omega, HS⟩
        case measure => simp [intOf]
      · have HS := Lib.hid (own_yes 2 rfl e)
        go_wp2
        go_ret
        exact ⟨ret_bool HS.out.symm, (Below.refl _ _).alloc (Nat.le_refl _) _⟩
    · cases e : ([102, 111, 114] == s.toList)
      · have HS := Lib.hid (hN.out.step [102, 111, 114] rfl e)
        go_wp2
        go_round
        case rel => exact ⟨4, rfl, by omega, HS⟩
        case measure => simp [intOf]
      · have HS := Lib.hid (own_yes 3 rfl e)
        go_wp2
        go_ret
        exact ⟨ret_bool HS.out.symm, (Below.refl _ _).alloc (Nat.le_refl _) _⟩
    · cases e : ([105, 102] == s.toList)
      · have HS := Lib.hid (hN.out.step [105, 102] rfl e)
        go_wp2
        go_round
        case rel => exact ⟨5, rfl, by omega, HS⟩
        case measure => simp [intOf]
      · have HS := Lib.hid (own_yes 4 rfl e)
        go_wp2
        go_ret
        exact ⟨ret_bool HS.out.symm, (Below.refl _ _).alloc (Nat.le_refl _) _⟩
    · cases e : ([112, 105, 99, 107] == s.toList)
      · have HS := Lib.hid (hN.out.step [112, 105, 99, 107] rfl e)
        go_wp2
        go_round
        case rel => exact ⟨6, rfl, by omega, HS⟩
        case measure => simp [intOf]
      · have HS := Lib.hid (own_yes 5 rfl e)
        go_wp2
        go_ret
        exact ⟨ret_bool HS.out.symm, (Below.refl _ _).alloc (Nat.le_refl _) _⟩
    · cases e : ([114, 101, 103, 105, 111, 110] == s.toList)
      · have HS := Lib.hid (hN.out.step [114, 101, 103, 105, 111, 110] rfl e)
        go_wp2
        go_round
        case rel => exact ⟨7, rfl, by omega, HS⟩
        case measure => simp [intOf]
      · have HS := Lib.hid (own_yes 6 rfl e)
        go_wp2
        go_ret
        exact ⟨ret_bool HS.out.symm, (Below.refl _ _).alloc (Nat.le_refl _) _⟩
    · cases e : ([115, 101, 99, 114, 101, 116] == s.toList)
      · have HS := Lib.hid (hN.out.step [115, 101, 99, 114, 101, 116] rfl e)
        go_wp2
        go_round
        case rel => exact ⟨8, rfl, by omega, HS⟩
        case measure => simp [intOf]
      · have HS := Lib.hid (own_yes 7 rfl e)
        go_wp2
        go_ret
        exact ⟨ret_bool HS.out.symm, (Below.refl _ _).alloc (Nat.le_refl _) _⟩
    · cases e : ([115, 116, 97, 99, 107] == s.toList)
      · have HS := Lib.hid (hN.out.step [115, 116, 97, 99, 107] rfl e)
        go_wp2
        go_round
        case rel => exact ⟨9, rfl, by omega, HS⟩
        case measure => simp [intOf]
      · have HS := Lib.hid (own_yes 8 rfl e)
        go_wp2
        go_ret
        exact ⟨ret_bool HS.out.symm, (Below.refl _ _).alloc (Nat.le_refl _) _⟩
    · cases e : ([118, 97, 114] == s.toList)
      · have HS := Lib.hid (hN.out.step [118, 97, 114] rfl e)
        go_wp2
        go_round
        case rel => exact ⟨10, rfl, by omega, HS⟩
        case measure => simp [intOf]
      · have HS := Lib.hid (own_yes 9 rfl e)
        go_wp2
        go_ret
        exact ⟨ret_bool HS.out.symm, (Below.refl _ _).alloc (Nat.le_refl _) _⟩
    · cases e : ([119, 104, 105, 108, 101] == s.toList)
      · have HS := Lib.hid (hN.out.step [119, 104, 105, 108, 101] rfl e)
        go_wp2
        go_round
        case rel => exact ⟨11, rfl, by omega, HS⟩
        case measure => simp [intOf]
      · have HS := Lib.hid (own_yes 10 rfl e)
        go_wp2
        go_ret
        exact ⟨ret_bool HS.out.symm, (Below.refl _ _).alloc (Nat.le_refl _) _⟩
    · have HS := Lib.hid hN.out.no
      go_wp2
      go_ret
      exact ⟨ret_bool HS.out.symm, (Below.refl _ _).alloc (Nat.le_refl _) _⟩
    · omega
set_option maxHeartbeats 1600000 in
theorem rnm_any (s : ByteArray) (w : World) : Calls Tryz.prog 54 #[.string s] w fun e w' => e = .returned (.bool (nameB s.data.toList)) ∧ Below w.heap.size w w' := by
  by_cases h0 : s.size = 0
  · have h1 : s.data.toList = [] := List.eq_nil_of_length_eq_zero (by rw [← size_len]; exact h0)
    obtain rfl : s = ⟨#[]⟩ := bytes_ext h1
    go_enter Tryz.func54, Tryz.ntmps54
    go_wp2
    go_ret
    exact ⟨rfl, Below.refl _ _⟩
  have hne : s.toList ≠ [] := fun h => h0 (by rw [size_len, ← Go.Lib.toList_data, h]; rfl)
  have e0 : s.toList.isEmpty = false := by cases h : s.toList with | nil => exact absurd h hne | cons _ _ => rfl
  have hpos : 0 < s.size := by omega
  clear h0
  by_cases h16 : 16 < s.size
  · have HF := Lib.hid (name_long (l := s.data.toList) (by rw [← size_len]; exact h16))
    go_enter Tryz.func54, Tryz.ntmps54
    go_wp2
    go_ret
    exact ⟨ret_bool HF.out.symm, Below.refl _ _⟩
  have hlen : 0 < s.data.toList.length := by rw [← size_len]; exact hpos
  have hz : s.size ≤ 16 := by omega
  have hhd : s.data.toList.headD 0 = (s[0]'hpos) := head_get _ hlen
  have HL := Lib.hid (fun w => rlet_any (s[0]'hpos) w)
  have HFst := Lib.hid hhd
  clear hlen hhd
  cases hl : isLet (s[0]'hpos)
  · have HF := Lib.hid (name_first (l := s.data.toList) (by rw [HFst.out]; exact hl))
    rw [hl] at HL
    clear hl
    go_enter Tryz.func54, Tryz.ntmps54
    go_wp2_with (go_at_call 95; refine (HL.out _).mono ?_; rintro e w' ⟨rfl, rfl⟩)
    go_ret
    exact ⟨ret_bool HF.out.symm, Below.refl _ _⟩
  rw [hl] at HL
  have HLt := Lib.hid hl
  clear hl
  have HO := Lib.hid (fun w => rown_any s w)
  cases ho : ownB s.data.toList
  case true =>
    have HF := Lib.hid (name_own ho)
    rw [ho] at HO
    clear ho
    go_enter Tryz.func54, Tryz.ntmps54
    go_wp2_with (first | (go_at_call 95; refine (HL.out _).mono ?_; rintro e w' ⟨rfl, rfl⟩) | (go_at_call 96; refine (HO.out _).mono ?_; rintro e w1 ⟨rfl, hB1⟩))
    go_ret
    exact ⟨ret_bool HF.out.symm, hB1⟩
  rw [ho] at HO
  have HOw := Lib.hid ho
  clear ho
  go_enter Tryz.func54, Tryz.ntmps54
  go_wp2_with (first | (go_at_call 95; refine (HL.out _).mono ?_; rintro e w' ⟨rfl, rfl⟩) | (go_at_call 96; refine (HO.out _).mono ?_; rintro e w1 ⟨rfl, hB1⟩))
  have HB1 := Lib.hid hB1
  clear hB1
  go_loopw [3] (fun i wr => ∃ k : Nat, i = .int .i64 k ∧ k ≤ s.size ∧ Hid ((s.data.toList.take k).all isPart = true) ∧ wr = w1) (fun i _ => s.size - (intOf i).toNat)
  case atStart => exact ⟨0, rfl, by omega, Lib.hid rfl, rfl⟩
  case round =>
    obtain ⟨k, rfl, hk, hP, rfl⟩ := hrel
    by_cases hlt : k < s.size
    · have HP := Lib.hid (fun w => rpart_any (s[k]'hlt) w)
      have HS := Lib.hid (fun h => isPart_take (l := s.data.toList) (k := k) hP.out (by rw [← size_len]; exact hlt) h)
      have HN := Lib.hid (fun h => name_part (l := s.data.toList) (k := k) (by rw [← size_len]; exact hlt) h)
      have hg : s.data.toList[k]'(by rw [← size_len]; exact hlt) = s[k]'hlt := rfl
      rw [hg] at HS HN
      clear hg
      cases hc : isPart (s[k]'hlt)
      · rw [hc] at HP
        have HF := Lib.hid (HN.out hc)
        clear HN hc HS
        go_wp2_with (go_at_call 97; refine (HP.out _).mono ?_; rintro e w' ⟨rfl, rfl⟩)
        go_ret
        exact ⟨ret_bool HF.out.symm, HB1.out⟩
      · rw [hc] at HP
        have HT := Lib.hid (HS.out hc)
        clear HN hc HS
        go_wp2_with (go_at_call 97; refine (HP.out _).mono ?_; rintro e w' ⟨rfl, rfl⟩)
        go_roundw
        case rel => exact ⟨k + 1, by go_num, by omega, HT, trivial⟩
        case measure => simp [intOf]; omega
    · obtain rfl : k = s.size := by omega
      have HF := Lib.hid (name_yes (l := s.data.toList) (by rw [← size_len]; exact hpos) (by rw [← size_len]; exact hz) (by rw [HFst.out]; exact HLt.out) HOw.out (by rw [← size_len]; exact hP.out))
      go_wp2
      go_ret
      exact ⟨ret_bool HF.out.symm, HB1.out⟩
end Go.Proofs.YtlhbledakddbbaaGreatDoor
/- The document's Depth. -/
namespace Go.Proofs.YtlhbledakddbbaaGreatDoor
open Go.RowKit

def RDepthTo (n : Nat) : Prop := ∀ (x : Ex), x.size < n → x.size ≤ 1000000 → ∀ (p : Option Addr) (c N : Nat) (w : World), x.Ok w N p → N ≤ w.heap.size →
    Calls Tryz.prog 12 #[x.val p c] w fun e w' => e = .returned (.int .i64 x.depth) ∧ Below w.heap.size w w'

/-- an argument that lies in a row: its cells, and that it is an expression -/
theorem Ex.At.open {w : World} {N : Nat} {x : Ex} {b o : Nat} (h : x.At w N b o) : ∃ p c, w.cell? ⟨b, o, none⟩ = some (.int .i64 x.op) ∧ w.cell? ⟨b, o + 1, none⟩ = some (.int .u64 (x.word : Int)) ∧ w.cell? ⟨b, o + 2, none⟩ = some (.string (str x.name)) ∧ w.cell? ⟨b, o + 3, none⟩ = some (.slice p x.args.len c) ∧ x.Ok w N p := by
  obtain ⟨op, wd, nm, ar⟩ := x
  obtain ⟨⟨h0, h1, h2, h3⟩, ⟨p, c, h4, s4⟩⟩ := h
  exact ⟨p, c, h0, h1, h2, h4, s4, h3⟩

set_option maxHeartbeats 3200000 in
theorem rdepth_step (n : Nat) (ih : RDepthTo n) : RDepthTo (n + 1) := by
  intro x hxs hx6 p c N w hx hN
  have IH := Lib.hid ih
  clear ih
  obtain ⟨w1, hw1⟩ : ∃ w1, w.alloc (.cells #[.int .i64 x.op, .int .u64 (x.word : Int), .string (str x.name), .slice p x.args.len c] 26) = w1 := ⟨_, rfl⟩
  have hB1 : Below w.heap.size w w1 := by rw [← hw1]; exact (Below.refl _ _).alloc (Nat.le_refl _) _
  have e0 : w1.heap[w.heap.size]? = some (.cells #[.int .i64 x.op, .int .u64 (x.word : Int), .string (str x.name), .slice p x.args.len c] 26 (0, 0)) := by rw [← hw1]; exact heap_alloc_new w _
  have hOk1 := (hx.later (hB1.mono hN) (Nat.le_trans hN hB1.size)).1
  have HB1 := Lib.hid hB1
  have HE0 := Lib.hid e0
  have hd : x.depth = 1 + x.args.deepest := by obtain ⟨op, wd, nm, ar⟩ := x; rw [Ex.depth]; rfl
  have hsz : x.args.size + 1 = x.size := by obtain ⟨op, wd, nm, ar⟩ := x; rw [Ex.size]; rfl
  have HD := Lib.hid (Exs.deepest_le x.args)
  have hlz : w.heap.size < w1.heap.size := lt_of_block e0
  rw [hd]
  unfold Ex.val
  generalize x.args = l at hOk1 hsz HD hw1 HE0 ⊢
  clear e0 hd hB1
  obtain ⟨hm, hs⟩ := hOk1
  have hstart : ∃ b o, (l.len = 0 ∨ p = some ⟨b, o, none⟩) ∧ b < w1.heap.size ∧ l.At w1 w1.heap.size b o := by
    rcases hs with h0 | ⟨b, o, hp, hb, ha⟩
    · exact ⟨0, 0, .inl h0, by omega, by cases l with | nil => trivial | cons => simp [Exs.len] at h0⟩
    · exact ⟨b, o, .inr hp, hb, ha⟩
  obtain ⟨b, o, hp, hb, ha⟩ := hstart
  have HB := Lib.hid hb
  go_enter Tryz.func12, Tryz.ntmps12
  go_wp2_with fail
  go_loopw [3, 4] (fun d i wr => ∃ (k m : Nat) (r : Exs), d = .int .i64 m ∧ i = .int .i64 k ∧ k + r.len = l.len ∧ r.size ≤ n ∧ r.size ≤ 1000000 ∧ Hid (r.At w1 w1.heap.size b (o + k * 4)) ∧ Hid (l.deepest = max m r.deepest) ∧ m ≤ 1000000 ∧ Hid (Below w1.heap.size w1 wr)) (fun _ i _ => l.len - (intOf i).toNat)
  case atStart => exact ⟨0, 0, l, rfl, rfl, by omega, by omega, by omega, Lib.hid (by rw [Nat.zero_mul]; exact ha), Lib.hid (by omega), by omega, Lib.hid (Below.refl _ _)⟩
  case round =>
    obtain ⟨k, m, r, rfl, rfl, hk, hrs, hr6, hr, hE, hm6, hBr⟩ := hrel
    have c3 : wr.cell? ⟨w.heap.size, 3, none⟩ = some (.slice p l.len c) := by
      have := (hBr.out.block _ (lt_of_block HE0.out)).trans HE0.out
      simp [World.cell?, this]
    cases r with
    | nil =>
      simp only [Exs.len] at hk
      have hge : ¬ k < l.len := by omega
      have hw : IntKind.i64.wrap ((m : Int) + 1) = (m : Int) + 1 := by simp [IntKind.wrap, IntKind.bits, IntKind.signed]; omega
      go_wp2_with fail
      go_ret
      exact ⟨ret_int (by rw [hE.out]; simp [Exs.deepest]; omega), HB1.out.trans (hBr.out.mono (by omega))⟩
    | cons y r =>
      obtain ⟨hy, hr'⟩ := hr.out
      simp only [Exs.len] at hk
      simp only [Exs.size] at hrs hr6
      have hlt : k < l.len := by omega
      have hyd := Ex.depth_le y
      rcases hp with h0 | rfl
      · omega
      have hyr := Ex.At.later hBr.out hBr.out.size y b (o + k * 4) HB.out hy
      obtain ⟨q, cq, d0, d1, d2, d3, hok⟩ := hyr.open
      have HC := Lib.hid (IH.out y (by omega) (by omega) q cq wr.heap.size wr hok (Nat.le_refl _))
      have HE := Lib.hid (show l.deepest = max (max m y.depth) r.deepest by rw [hE.out, Exs.deepest]; omega)
      have hmx : ((max m y.depth : Nat) : Int) = max (m : Int) (y.depth : Int) := by omega
      have HR := Lib.hid hr'
      unfold Ex.val at HC
      generalize y.depth = dy at HC HE hyd hmx
      clear hy hr' hr hyr hok
      go_wp2_with fail
      refine HC.out.mono ?_
      rintro e w2 ⟨rfl, hB2⟩
      have HB2 := Lib.hid (hBr.out.trans (hB2.mono hBr.out.size))
      clear hB2 HC
      go_wp2_with fail
      go_roundw
      case rel => exact ⟨k + 1, max m dy, r, by rw [hmx], by go_num, by omega, by omega, by omega, Lib.hid (by rw [show o + (k + 1) * 4 = o + k * 4 + 4 by omega]; exact HR.out), HE, by omega, HB2⟩
      case measure => simp [intOf]; omega
theorem rdepth_to : ∀ n, RDepthTo n
  | 0 => fun _ h => absurd h (Nat.not_lt_zero _)
  | n + 1 => rdepth_step n (rdepth_to n)
theorem rdepth_any (x : Ex) (hx6 : x.size ≤ 1000000) (p : Option Addr) (c N : Nat) (w : World) (h : x.Ok w N p) (hN : N ≤ w.heap.size) :
    Calls Tryz.prog 12 #[x.val p c] w fun e w' => e = .returned (.int .i64 x.depth) ∧ Below w.heap.size w w' :=
  rdepth_to _ x (Nat.lt_succ_self _) hx6 p c N w h hN
end Go.Proofs.YtlhbledakddbbaaGreatDoor
