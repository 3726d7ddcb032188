/- Regions as they lie in memory; which may be. -/
import Derived.Test.YtajjpaabkdgjbaaChecked
import Derived.WalkKit
import Derived.ProofKit
import Derived.OpenShut
import Derived.Lib.Hide
import Derived.WalkSmall
namespace Go.Proofs.Ytajjpaabkdgjbaa
open Go.RowKit

/-- a region -/
structure Rg where
  name : ByteArray
  addr : Int
  size : Int
  sec : Bool
def Rg.cells (r : Rg) : List Value := [.string r.name, .int .i64 r.addr, .int .i64 r.size, .bool r.sec]
abbrev Rg.val (r : Rg) : Value := .agg #[.string r.name, .int .i64 r.addr, .int .i64 r.size, .bool r.sec]

def RgAt (w : World) : List Rg → Nat → Nat → Prop
  | [], _, _ => True
  | r :: rs, b, o => (w.cell? ⟨b, o, none⟩ = some (.string r.name) ∧ w.cell? ⟨b, o + 1, none⟩ = some (.int .i64 r.addr) ∧ w.cell? ⟨b, o + 2, none⟩ = some (.int .i64 r.size) ∧ w.cell? ⟨b, o + 3, none⟩ = some (.bool r.sec)) ∧ RgAt w rs b (o + 4)

/-- a slice's place: nothing is asked of an empty one -/
def Sl (N : Nat) (p : Option Addr) (n : Nat) (A : Nat → Nat → Prop) : Prop :=
  n ≤ 9223372036854775807 ∧ (n = 0 ∨ ∃ b o, p = some ⟨b, o, none⟩ ∧ b < N ∧ A b o)
def RgIn (w : World) (N : Nat) (rs : List Rg) (p : Option Addr) : Prop := Sl N p rs.length (RgAt w rs)

theorem Sl.imp {N M : Nat} {p : Option Addr} {n : Nat} {A B : Nat → Nat → Prop} (h : Sl N p n A) (hN : N ≤ M) (hAB : ∀ b o, b < N → A b o → B b o) : Sl M p n B := by
  rcases h with ⟨hm, h | ⟨b, o, hp, hb, ha⟩⟩
  · exact ⟨hm, .inl h⟩
  · exact ⟨hm, .inr ⟨b, o, hp, Nat.lt_of_lt_of_le hb hN, hAB b o hb ha⟩⟩
theorem RgAt.keep {w w' : World} {b : Nat} (hw : ∀ o, w'.cell? ⟨b, o, none⟩ = w.cell? ⟨b, o, none⟩) : ∀ (xs : List Rg) (o : Nat), RgAt w xs b o → RgAt w' xs b o
  | [], _, _ => trivial
  | _ :: xs, o, h => ⟨⟨(hw _).trans h.1.1, (hw _).trans h.1.2.1, (hw _).trans h.1.2.2.1, (hw _).trans h.1.2.2.2⟩, RgAt.keep hw xs (o + 4) h.2⟩
theorem RgAt.later {w w' : World} {N : Nat} (hw : Below N w w') (xs : List Rg) (b o : Nat) (hb : b < N) (h : RgAt w xs b o) : RgAt w' xs b o :=
  RgAt.keep (fun _ => hw.cell hb) xs o h
theorem RgIn.later {w w' : World} {N M : Nat} {l : List Rg} {p : Option Addr} (h : RgIn w N l p) (hw : Below N w w') (hM : N ≤ M) : RgIn w' M l p :=
  Sl.imp h hM fun b o hb ha => RgAt.later hw l b o hb ha
theorem RgAt.drop {w : World} : ∀ (ds rs : List Rg) (b o : Nat), RgAt w (ds ++ rs) b o → RgAt w rs b (o + ds.length * 4)
  | [], _, _, o, h => by rw [List.length_nil, Nat.zero_mul]; exact h
  | _ :: ds, rs, b, o, h => by
    have := RgAt.drop ds rs b (o + 4) h.2
    rw [List.length_cons, show o + (ds.length + 1) * 4 = o + 4 + ds.length * 4 by omega]; exact this
theorem RgAt.head {w : World} : ∀ (ds rs : List Rg) (b o : Nat), RgAt w (ds ++ rs) b o → RgAt w ds b o
  | [], _, _, _, _ => trivial
  | _ :: ds, rs, b, o, h => ⟨h.1, RgAt.head ds rs b (o + 4) h.2⟩
def rgCells (xs : List Rg) : List Value := xs.flatMap Rg.cells
theorem rg_len : ∀ xs : List Rg, (rgCells xs).length = xs.length * 4
  | [] => rfl
  | x :: xs => by have := rg_len xs; unfold rgCells at this ⊢; simp [Rg.cells, this]; omega
theorem RgAt.list {w : World} : ∀ (xs : List Rg) (b o : Nat), RgAt w xs b o → ∀ j u, (rgCells xs)[j]? = some u → w.cell? ⟨b, o + j, none⟩ = some u
  | [], _, _, _, j, u, h => by simp [rgCells] at h
  | x :: xs, b, o, h, 0, u, hu => by simp [rgCells, Rg.cells] at hu; subst hu; exact h.1.1
  | x :: xs, b, o, h, 1, u, hu => by simp [rgCells, Rg.cells] at hu; subst hu; exact h.1.2.1
  | x :: xs, b, o, h, 2, u, hu => by simp [rgCells, Rg.cells] at hu; subst hu; exact h.1.2.2.1
  | x :: xs, b, o, h, 3, u, hu => by simp [rgCells, Rg.cells] at hu; subst hu; exact h.1.2.2.2
  | x :: xs, b, o, h, j + 4, u, hu => by
    have := RgAt.list xs b (o + 4) h.2 j u (by simpa [rgCells, Rg.cells] using hu)
    rw [show o + (j + 4) = o + 4 + j by omega]; exact this
theorem RgAt.of {w : World} : ∀ (xs : List Rg) (b o : Nat), (∀ j u, (rgCells xs)[j]? = some u → w.cell? ⟨b, o + j, none⟩ = some u) → RgAt w xs b o
  | [], _, _, _ => trivial
  | x :: xs, b, o, h => ⟨⟨h 0 _ (by simp [rgCells, Rg.cells]), h 1 _ (by simp [rgCells, Rg.cells]), h 2 _ (by simp [rgCells, Rg.cells]), h 3 _ (by simp [rgCells, Rg.cells])⟩, RgAt.of xs b (o + 4) fun j u hu => by
    have := h (j + 4) u (by simpa [rgCells, Rg.cells] using hu)
    rw [show o + (j + 4) = o + 4 + j by omega] at this; exact this⟩
theorem oneRg : ∀ xs : List Rg, ∀ u ∈ rgCells xs, u.oneCell' = true := by
  intro xs u hu
  obtain ⟨x, _, hx⟩ := List.mem_flatMap.1 hu
  simp only [Rg.cells, List.mem_cons, List.not_mem_nil, or_false] at hx
  rcases hx with rfl | rfl | rfl | rfl <;> rfl

theorem own_form {w : World} {base size n : Nat} {e : TypeId} {v : Value} {xs : List Value} (h : w.ownsRow base e size v n xs) (hn : 0 < n) : ∃ g cap, v = .slice (some ⟨g, 0, none⟩) n cap := by
  rcases h.2 with ⟨_, h0⟩ | ⟨g, cap, cur, hv, _⟩
  · omega
  · exact ⟨g, cap, hv⟩
theorem ret_bool {a b : Bool} (h : a = b) : Ending.returned (.bool a) = .returned (.bool b) := by rw [h]
theorem ret_int {k : IntKind} {a b : Int} (h : a = b) : Ending.returned (.int k a) = .returned (.int k b) := by rw [h]
theorem beq_cast (n : Nat) (m : Int) : ((n : Int) == m) = decide ((n : Int) = m) := by rw [Bool.eq_iff_iff]; simp
theorem bool_of {a b : Bool} (h : a = true ↔ b = true) : a = b := Bool.eq_iff_iff.2 h
theorem add_of (b o j : Nat) : (⟨b, o, none⟩ : Addr).add j = ⟨b, o + j, none⟩ := by unfold Addr.add; split <;> simp_all
theorem bcell {W w1 : World} {B : Nat} (hb : Below B W w1) : (∀ b o, b < B → w1.cell? ⟨b, o, none⟩ = W.cell? ⟨b, o, none⟩) ∧ (∀ b o, b < B → w1.frozen? ⟨b, o, none⟩ = W.frozen? ⟨b, o, none⟩) :=
  ⟨fun b o h => hb.cell (p := ⟨b, o, none⟩) h, fun b o h => hb.frozen (p := ⟨b, o, none⟩) h⟩

/-! which may be -/
def Rg.okN (r : Rg) : Bool := decide (1 ≤ r.name.size) && decide (r.name.size ≤ 16) && decide (1 ≤ r.size) && decide (r.size ≤ 512)
def Rg.okA (r : Rg) : Bool := decide (0 ≤ r.addr) && decide (r.addr % 8 = 0) && decide (r.addr ≤ 49152 - r.size * 8)
def Rg.ok (r : Rg) : Bool := r.okN && r.okA
def Rg.meets (a b : Rg) : Bool := decide (a.name = b.name) || (decide (a.addr < b.addr + b.size * 8) && decide (b.addr < a.addr + a.size * 8))
def meetAny : List Rg → List Rg → Bool
  | _, [] => false
  | ds, r :: rs => ds.any (fun d => r.meets d) || meetAny (ds ++ [r]) rs
def mayB (rs : List Rg) : Bool := decide (rs.length ≤ 16) && (rs.all Rg.ok && !meetAny [] rs)
def longB (rs : List Rg) : Bool := decide (40 < rs.length) || (rs.take 41).any fun r => decide (900 < r.name.size)

theorem Rg.ok_iff {r : Rg} : r.ok = true ↔ (1 ≤ r.name.size ∧ r.name.size ≤ 16 ∧ 1 ≤ r.size ∧ r.size ≤ 512) ∧ 0 ≤ r.addr ∧ r.addr % 8 = 0 ∧ r.addr ≤ 49152 - r.size * 8 := by
  simp [Rg.ok, Rg.okN, Rg.okA, and_assoc]
end Go.Proofs.Ytajjpaabkdgjbaa
