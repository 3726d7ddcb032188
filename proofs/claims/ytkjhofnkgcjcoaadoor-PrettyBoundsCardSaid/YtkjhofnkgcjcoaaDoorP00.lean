/- Expressions as they lie in memory. -/
import Derived.Test.YtkjhofnkgcjcoaaDoorProg
import Derived.WalkKit
import Derived.BigQuiet
import Derived.Deep.QuietTactic
import Derived.Lib.Hide
import Derived.Outline
namespace Go.Proofs.YtkjhofnkgcjcoaaDoor
open Go.RowKit

mutual
inductive Ex where
  | mk (op : Int) (word : Nat) (name : List UInt8) (args : Exs)
inductive Exs where
  | nil
  | cons (x : Ex) (rest : Exs)
end
def Exs.len : Exs → Nat
  | .nil => 0
  | .cons _ r => r.len + 1
mutual
def Ex.size : Ex → Nat
  | .mk _ _ _ a => a.size + 1
def Exs.size : Exs → Nat
  | .nil => 0
  | .cons x r => x.size + r.size + 1
end
def Ex.op : Ex → Int | .mk o _ _ _ => o
def Ex.word : Ex → Nat | .mk _ n _ _ => n
def Ex.name : Ex → List UInt8 | .mk _ _ n _ => n
def Ex.args : Ex → Exs | .mk _ _ _ a => a

/-- a text out of its bytes -/
def str (l : List UInt8) : ByteArray := ⟨l.toArray⟩
theorem str_data (l : List UInt8) : (str l).data.toList = l := rfl
theorem bytes_ext {a b : ByteArray} (h : a.data.toList = b.data.toList) : a = b := by
  obtain ⟨⟨x⟩⟩ := a; obtain ⟨⟨y⟩⟩ := b; cases h; rfl
theorem str_eta (s : ByteArray) : str s.data.toList = s := bytes_ext rfl
theorem size_len (s : ByteArray) : s.size = s.data.toList.length := by rw [Array.length_toList]; rfl
theorem size_str (l : List UInt8) : (str l).size = l.length := by rw [size_len, str_data]
/-- a slice's place: nothing is asked of an empty one -/
def Sl (N : Nat) (p : Option Addr) (n : Nat) (A : Nat → Nat → Prop) : Prop :=
  n ≤ 140737488355328 ∧ (n = 0 ∨ ∃ b o, p = some ⟨b, o, none⟩ ∧ b < N ∧ A b o)
mutual
def Ex.At (w : World) (N : Nat) : Ex → Nat → Nat → Prop
  | .mk op x nm as', b, o =>
    (w.cell? ⟨b, o, none⟩ = some (.int .i64 op) ∧ w.cell? ⟨b, o + 1, none⟩ = some (.int .u64 (x : Int)) ∧ w.cell? ⟨b, o + 2, none⟩ = some (.string (str nm)) ∧ x < 18446744073709551616) ∧
    (∃ p c, w.cell? ⟨b, o + 3, none⟩ = some (.slice p as'.len c) ∧ Sl N p as'.len (Exs.At w N as'))
def Exs.At (w : World) (N : Nat) : Exs → Nat → Nat → Prop
  | .nil, _, _ => True
  | .cons x r, b, o => Ex.At w N x b o ∧ Exs.At w N r b (o + 4)
end
def Exs.In (w : World) (N : Nat) (l : Exs) (p : Option Addr) : Prop := Sl N p l.len (Exs.At w N l)
theorem Sl.imp {N M : Nat} {p : Option Addr} {n : Nat} {A B : Nat → Nat → Prop} (h : Sl N p n A) (hN : N ≤ M) (hAB : ∀ b o, b < N → A b o → B b o) : Sl M p n B := by
  rcases h with ⟨hm, h | ⟨b, o, hp, hb, ha⟩⟩
  · exact ⟨hm, .inl h⟩
  · exact ⟨hm, .inr ⟨b, o, hp, Nat.lt_of_lt_of_le hb hN, hAB b o hb ha⟩⟩
mutual
theorem Ex.At.later {w w' : World} {N M : Nat} (hw : Below N w w') (hM : N ≤ M) : ∀ (x : Ex) (b o : Nat), b < N → Ex.At w N x b o → Ex.At w' M x b o
  | .mk op x nm as', b, o, hb, h => by
    obtain ⟨⟨h0, h1, h2, h3⟩, ⟨p, c, h4, s4⟩⟩ := h
    exact ⟨⟨(hw.cell hb).trans h0, (hw.cell hb).trans h1, (hw.cell hb).trans h2, h3⟩, ⟨p, c, (hw.cell hb).trans h4, s4.imp hM fun b' o' hb' ha => Exs.At.later hw hM as' b' o' hb' ha⟩⟩
theorem Exs.At.later {w w' : World} {N M : Nat} (hw : Below N w w') (hM : N ≤ M) : ∀ (l : Exs) (b o : Nat), b < N → Exs.At w N l b o → Exs.At w' M l b o
  | .nil, _, _, _, _ => trivial
  | .cons x r, b, o, hb, h => ⟨Ex.At.later hw hM x b o hb h.1, Exs.At.later hw hM r b (o + 4) hb h.2⟩
end
theorem Exs.In.later {w w' : World} {N M : Nat} {l : Exs} {p : Option Addr} (h : l.In w N p) (hw : Below N w w') (hM : N ≤ M) : l.In w' M p :=
  Sl.imp h hM fun b o hb ha => Exs.At.later hw hM l b o hb ha
theorem Exs.In.nil (w : World) (N : Nat) (p : Option Addr) : Exs.nil.In w N p := ⟨Nat.zero_le _, .inl rfl⟩
/-- an expression as a value -/
def Ex.val (x : Ex) (p : Option Addr) (c : Nat) : Value := .agg #[.int .i64 x.op, .int .u64 (x.word : Int), .string (str x.name), .slice p x.args.len c]
/-- it is one: its arguments lie there -/
def Ex.Ok (w : World) (N : Nat) (x : Ex) (p : Option Addr) : Prop := x.args.In w N p ∧ x.word < 18446744073709551616
theorem Ex.Ok.later {w w' : World} {N M : Nat} {x : Ex} {p : Option Addr} (h : x.Ok w N p) (hw : Below N w w') (hM : N ≤ M) : x.Ok w' M p := ⟨h.1.later hw hM, h.2⟩
theorem ret_bool {a b : Bool} (h : a = b) : Ending.returned (.bool a) = .returned (.bool b) := by rw [h]
theorem ret_int {k : IntKind} {a b : Int} (h : a = b) : Ending.returned (.int k a) = .returned (.int k b) := by rw [h]
theorem below_drewN {B : Nat} {a w : World} (h : Below B a w) (n : Nat) : Below B a (w.drewN n) := by
  induction n with
  | zero => exact h
  | succ n ih => exact ih.drew
end Go.Proofs.YtkjhofnkgcjcoaaDoor
/- How deep an expression is. -/
namespace Go.Proofs.YtkjhofnkgcjcoaaDoor
open Go.RowKit

mutual
def Ex.depth : Ex → Nat
  | .mk _ _ _ a => 1 + a.deepest
def Exs.deepest : Exs → Nat
  | .nil => 0
  | .cons x r => max x.depth r.deepest
end
mutual
theorem Ex.depth_le : ∀ x : Ex, x.depth ≤ x.size
  | .mk _ _ _ a => by have := Exs.deepest_le a; rw [Ex.depth, Ex.size]; omega
theorem Exs.deepest_le : ∀ a : Exs, a.deepest ≤ a.size
  | .nil => Nat.le_refl _
  | .cons x r => by have := Ex.depth_le x; have := Exs.deepest_le r; rw [Exs.deepest, Exs.size]; omega
end
def DepthTo (n : Nat) : Prop := ∀ (x : Ex), x.size < n → x.size ≤ 1000000 → ∀ (b o N : Nat) (w : World), b < N → x.At w N b o →
    Calls Tryd.prog 33 #[.pointer (some ⟨b, o, none⟩)] w fun e w' => e = .returned (.int .i64 x.depth) ∧ w = w'

set_option maxHeartbeats 1600000 in
theorem deepest_step (n : Nat) (ih : DepthTo n) (l : Exs) (hl : l.size ≤ n) (hl6 : l.size ≤ 1000000) (p : Option Addr) (c N : Nat) (w : World) (h : l.In w N p) :
    Calls Tryd.prog 54 #[.slice p l.len c, .func (.func 33) #[] #[]] w fun e w' => e = .returned (.int .i64 l.deepest) ∧ w = w' := by
  have IH := Lib.hid ih
  clear ih
  rcases h with ⟨hm, h0 | ⟨b, o, rfl, hb, ha⟩⟩
  · go_enter Tryd.func54, Tryd.ntmps54
    go_wp2_with fail
    go_loopw [5, 9] (fun d i wr => d = .int .i64 0 ∧ i = .int .i64 0 ∧ wr = w) (fun _ _ _ => 0)
    case atStart => exact ⟨rfl, rfl, rfl⟩
    case round =>
      obtain ⟨rfl, rfl, rfl⟩ := hrel
      have hge : ¬ 0 < l.len := by omega
      go_wp2_with fail
      go_ret
      exact ⟨ret_int (by cases l with | nil => rfl | cons => simp [Exs.len] at h0), rfl⟩
  · have HD := Lib.hid (Exs.deepest_le l)
    go_enter Tryd.func54, Tryd.ntmps54
    go_wp2_with fail
    go_loopw [5, 9] (fun d i wr => ∃ (k m : Nat) (r : Exs), d = .int .i64 m ∧ i = .int .i64 k ∧ k + r.len = l.len ∧ r.size ≤ n ∧ r.size ≤ 1000000 ∧ r.At w N b (o + k * 4) ∧ Hid (l.deepest = max m r.deepest) ∧ m ≤ 1000000 ∧ wr = w) (fun _ i _ => l.len - (intOf i).toNat)
    case atStart => exact ⟨0, 0, l, rfl, rfl, by omega, hl, hl6, by rw [Nat.zero_mul]; exact ha, Lib.hid (by omega), by omega, rfl⟩
    case round =>
      obtain ⟨k, m, r, rfl, rfl, hk, hrs, hr6, hr, hE, hm6, rfl⟩ := hrel
      cases r with
      | nil =>
        simp only [Exs.len] at hk
        have hge : ¬ k < l.len := by omega
        go_wp2_with fail
        go_ret
        exact ⟨ret_int (by rw [hE.out]; simp [Exs.deepest]), rfl⟩
      | cons x r =>
        obtain ⟨hx, hr⟩ := hr
        simp only [Exs.len] at hk
        simp only [Exs.size] at hrs hr6
        have hlt : k < l.len := by omega
        have hxd := Ex.depth_le x
        have hxm : x.depth ≤ 1000000 := by have h1 := hE.out; have h2 := HD.out; simp only [Exs.deepest] at h1; omega
        have HC := Lib.hid (IH.out x (by omega) (by omega) b (o + k * 4) N _ hb hx)
        have HE := Lib.hid (show l.deepest = max (max m x.depth) r.deepest by rw [hE.out, Exs.deepest]; omega)
        generalize x.depth = dx at HC HE hxm
        clear hx hxd
        go_wp2_with fail
        refine HC.out.mono ?_
        rintro e w' ⟨rfl, rfl⟩
        go_wp2_with fail
        go_roundw
        case rel => exact ⟨k + 1, max m dx, r, by go_num, by go_num, by omega, by omega, by omega, by rw [show o + (k + 1) * 4 = o + k * 4 + 4 by omega]; exact hr, HE, by omega, trivial⟩
        case measure => simp [intOf]; omega

set_option maxHeartbeats 1600000 in
theorem depth_step (n : Nat) (ih : DepthTo n) : DepthTo (n + 1) := by
  intro x hxs hx6 b o N w hb hx
  obtain ⟨op, wd, nm, ar⟩ := x
  obtain ⟨⟨h0, h1, h2, h3⟩, ⟨p, c, h4, s4⟩⟩ := hx
  simp only [Ex.size] at hxs hx6
  have HD := Lib.hid (deepest_step n ih ar (by omega) (by omega) p c N w s4)
  have hd := Exs.deepest_le ar
  rw [show (Ex.mk op wd nm ar).depth = 1 + ar.deepest by rw [Ex.depth]]
  generalize ar.deepest = m at HD hd
  clear ih s4
  go_enter Tryd.func33, Tryd.ntmps33
  go_wp2_with fail
  refine HD.out.mono ?_
  rintro e w' ⟨rfl, rfl⟩
  go_wp2_with fail
  go_ret
  exact ⟨ret_int (by omega), rfl⟩
theorem depth_to : ∀ n, DepthTo n
  | 0 => fun _ h => absurd h (Nat.not_lt_zero _)
  | n + 1 => depth_step n (depth_to n)
theorem depthOf_any (x : Ex) (hx6 : x.size ≤ 1000000) (b o N : Nat) (w : World) (hb : b < N) (h : x.At w N b o) :
    Calls Tryd.prog 33 #[.pointer (some ⟨b, o, none⟩)] w fun e w' => e = .returned (.int .i64 x.depth) ∧ w = w' :=
  depth_to _ x (Nat.lt_succ_self _) hx6 b o N w hb h
/-- an expression in a block of its own -/
theorem Ex.At.new {w : World} {N : Nat} {x : Ex} {p : Option Addr} {c : Nat} (h : x.Ok w N p) (hN : N ≤ w.heap.size) :
    x.At (w.alloc (.cells #[.int .i64 x.op, .int .u64 (x.word : Int), .string (str x.name), .slice p x.args.len c] 29)) (w.heap.size + 1) w.heap.size 0 := by
  have hB : Below N w (w.alloc (.cells #[.int .i64 x.op, .int .u64 (x.word : Int), .string (str x.name), .slice p x.args.len c] 29)) := (Below.refl _ _).alloc hN _
  have h2 := h.1.later hB (show N ≤ w.heap.size + 1 by omega)
  have h3 := h.2
  obtain ⟨op, wd, nm, ar⟩ := x
  simp only [Ex.args, Ex.op, Ex.word, Ex.name] at h2 h3 ⊢
  exact ⟨⟨by simp [go_sem], by simp [go_sem], by simp [go_sem], h3⟩, ⟨p, c, by simp [go_sem], h2⟩⟩

set_option maxHeartbeats 1600000 in
theorem depth_any (x : Ex) (hx6 : x.size ≤ 1000000) (p : Option Addr) (c N : Nat) (w : World) (h : x.Ok w N p) (hN : N ≤ w.heap.size) :
    Calls Tryd.prog 14 #[x.val p c] w fun e w' => e = .returned (.int .i64 x.depth) ∧ Below w.heap.size w w' := by
  have HD := Lib.hid (depthOf_any x hx6 w.heap.size 0 (w.heap.size + 1) _ (Nat.lt_succ_self _) (Ex.At.new (c := c) h hN))
  unfold Ex.val
  clear h
  go_enter Tryd.func14, Tryd.ntmps14
  go_wp2_with fail
  refine HD.out.mono ?_
  rintro e w' ⟨rfl, rfl⟩
  go_wp2_with fail
  go_ret
  exact ⟨rfl, (Below.refl _ _).alloc (Nat.le_refl _) _⟩
end Go.Proofs.YtkjhofnkgcjcoaaDoor
