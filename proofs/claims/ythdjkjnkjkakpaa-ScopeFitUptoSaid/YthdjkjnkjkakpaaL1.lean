/- a program of one function. -/
import Derived.Test.YthdjkjnkjkakpaaE7
namespace Go.Proofs.Ythdjkjnkjkakpaa
open Go.RowKit

def oneFz (l : Sts) (z : Int) : Fnc := ⟨[102], [], [⟨[120], 1, 0, false⟩, ⟨[114], 2, z, false⟩], [], l⟩
def onePz (l : Sts) (z : Int) : Prg := ⟨[], [oneFz l z]⟩
def oneP (l : Sts) : Prg := onePz l 2
/-- where the parts of a program of one function lie -/
structure OneAt (w' : World) (g : Nat) (l : Sts) (q : Option Addr) (c : Nat) (z : Int) : Prop where
  v : w'.heap[g + 1]? = some (.cells #[.string (str [120]), .int .i64 1, .int .i64 0, .bool false, .string (str [114]), .int .i64 2, .int .i64 z, .bool false] 52)
  f : w'.heap[g + 1 + 1]? = some (.cells #[.string (str [102]), .slice none 0 0, .slice (some ⟨g + 1, 0, none⟩) 2 2, .slice none 0 0, .slice q l.len c] 55)
def oneS (g : Nat) : PrgP := ⟨none, some ⟨g + 1 + 1, 0, none⟩, 0, 1⟩
theorem OneAt.ok {w' : World} {g N : Nat} {l : Sts} {q : Option Addr} {c : Nat} {z : Int} (h : OneAt w' g l q c z) (hl : l.In w' N q) (hN : N ≤ g + 1 + 1 + 1) : (onePz l z).Ok w' (g + 1 + 1 + 1) (oneS g).p (oneS g).q := by
  have hz : ∀ {α : Type} (A : α → Nat → Nat → Prop) (k : Nat), RowIn (g + 1 + 1 + 1) A k [] none := fun A k => ⟨Nat.zero_le _, .inl rfl⟩
  refine ⟨hz _ _, ⟨show 1 ≤ 140737488355328 by decide, .inr ⟨g + 1 + 1, 0, rfl, by omega, ⟨?_, trivial⟩⟩⟩⟩
  have y0 := cell_blk h.f (j := 0) rfl
  have y1 := cell_blk h.f (j := 1) rfl
  have y2 := cell_blk h.f (j := 2) rfl
  have y3 := cell_blk h.f (j := 3) rfl
  have y4 := cell_blk h.f (j := 4) rfl
  have v0 := cell_blk h.v (j := 0) rfl
  have v1 := cell_blk h.v (j := 1) rfl
  have v2 := cell_blk h.v (j := 2) rfl
  have v3 := cell_blk h.v (j := 3) rfl
  have v4 := cell_blk h.v (j := 4) rfl
  have v5 := cell_blk h.v (j := 5) rfl
  have v6 := cell_blk h.v (j := 6) rfl
  have v7 := cell_blk h.v (j := 7) rfl
  refine ⟨y0, ⟨none, 0, y1, hz _ _⟩, ⟨some ⟨g + 1, 0, none⟩, 2, y2, ⟨show 2 ≤ 140737488355328 by decide, .inr ⟨g + 1, 0, rfl, by omega, ⟨⟨v0, v1, v2, v3⟩, ⟨v4, v5, v6, v7⟩, trivial⟩⟩⟩⟩, ⟨none, 0, y3, Nat.zero_le _, hz _ _⟩, ⟨q, c, y4, ?_⟩⟩
  exact hl.later (Below.refl _ _) hN
set_option maxHeartbeats 3200000 in
theorem one_any (l : Sts) (q : Option Addr) (c : Nat) (w : World) :
    Calls Try.prog 15 #[.slice q l.len c] w fun z w' => z = .returned (.agg #[.slice none 0 0, .slice (some ⟨w.heap.size + 1 + 1, 0, none⟩) 1 1]) ∧ OneAt w' w.heap.size l q c 2 ∧ w'.heap.size = w.heap.size + 1 + 1 + 1 ∧ Below w.heap.size w w' := by
  obtain ⟨W0, hW0, k0, k1, k2, hB0, hz0⟩ := three w (.cells #[.slice none 0 0, .slice (some ⟨w.heap.size + 1 + 1, 0, none⟩) 1 1] 25) (.cells #[.string (str [120]), .int .i64 1, .int .i64 0, .bool false, .string (str [114]), .int .i64 2, .int .i64 2, .bool false] 52) (.cells #[.string (str [102]), .slice none 0 0, .slice (some ⟨w.heap.size + 1, 0, none⟩) 2 2, .slice none 0 0, .slice q l.len c] 55)
  go_enter Try.func15, Try.ntmps15
  go_wp2_with fail
  erw [hW0]
  have y0 := cell_blk k0 (j := 0) rfl
  have y1 := cell_blk k0 (j := 1) rfl
  refine bodyPost_ret (v := .agg #[.slice none 0 0, .slice (some ⟨w.heap.size + 1 + 1, 0, none⟩) 1 1]) ?_ rfl ⟨rfl, ⟨k1, k2⟩, hz0, hB0⟩
  simp [results, Try.results15, go_sem, y0, y1]
end Go.Proofs.Ythdjkjnkjkakpaa
