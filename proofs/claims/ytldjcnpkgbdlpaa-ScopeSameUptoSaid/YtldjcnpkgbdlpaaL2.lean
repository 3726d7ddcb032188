/- L1, L2 as one. -/
import Derived.Test.YtldjcnpkgbdlpaaE7
import Derived.Test.YtldjcnpkgbdlpaaK5
/- a program of one function. -/
namespace Go.Proofs.Ytldjcnpkgbdlpaa
open Go.RowKit

def oneFz (l : Sts) (z : Int) : Fnc := ⟨[102], [], [⟨[120], 1, 0, false⟩, ⟨[114], 2, z, false⟩], [], l⟩
def onePz (l : Sts) (z : Int) : Prg := ⟨[], [oneFz l z]⟩
def oneP (l : Sts) : Prg := onePz l 2
/-- where the parts of a program of one function lie -/
structure OneAt (w' : World) (g : Nat) (l : Sts) (q : Option Addr) (c : Nat) (z : Int) : Prop where
  v : w'.heap[g + 1]? = some (.cells #[.string (str [120]), .int .i64 1, .int .i64 0, .bool false, .string (str [114]), .int .i64 2, .int .i64 z, .bool false] 61)
  f : w'.heap[g + 1 + 1]? = some (.cells #[.string (str [102]), .slice none 0 0, .slice (some ⟨g + 1, 0, none⟩) 2 2, .slice none 0 0, .slice q l.len c] 35)
def oneS (g : Nat) : PrgP := ⟨none, some ⟨g + 1 + 1, 0, none⟩, 0, 1⟩
theorem OneAt.ok {w' : World} {g N : Nat} {l : Sts} {q : Option Addr} {c : Nat} {z : Int} (h : OneAt w' g l q c z) (hl : l.In w' N q) (hN : N ≤ g + 1 + 1 + 1) : (onePz l z).Ok w' (g + 1 + 1 + 1) (oneS g).p (oneS g).q := by
  have hz : ∀ {α : Type} (A : α → Nat → Nat → Prop) (k : Nat), RowIn (g + 1 + 1 + 1) A k [] none := fun A k => ⟨Nat.zero_le _, .inl rfl⟩
  refine ⟨hz _ _, ⟨show 1 ≤ 140737488355328 by decide, .inr ⟨g + 1 + 1, 0, rfl, by omega, ⟨?_, trivial⟩⟩⟩⟩
  have y0 := cell_blk h.f (j := 0) rfl
  have y1 := cell_blk h.f (j := 1) rfl
  have y2 := cell_blk h.f (j := 2) rfl
  have y3 := cell_blk h.f (j := 3) rfl
  have y4 := cell_blk h.f (j := 4) rfl
  have v0 := cell_blk h.v (j := 0) rfl
  have v1 := cell_blk h.v (j := 1) rfl
  have v2 := cell_blk h.v (j := 2) rfl
  have v3 := cell_blk h.v (j := 3) rfl
  have v4 := cell_blk h.v (j := 4) rfl
  have v5 := cell_blk h.v (j := 5) rfl
  have v6 := cell_blk h.v (j := 6) rfl
  have v7 := cell_blk h.v (j := 7) rfl
  refine ⟨y0, ⟨none, 0, y1, hz _ _⟩, ⟨some ⟨g + 1, 0, none⟩, 2, y2, ⟨show 2 ≤ 140737488355328 by decide, .inr ⟨g + 1, 0, rfl, by omega, ⟨⟨v0, v1, v2, v3⟩, ⟨v4, v5, v6, v7⟩, trivial⟩⟩⟩⟩, ⟨none, 0, y3, Nat.zero_le _, hz _ _⟩, ⟨q, c, y4, ?_⟩⟩
  exact hl.later (Below.refl _ _) hN
set_option maxHeartbeats 3200000 in
theorem one_any (l : Sts) (q : Option Addr) (c : Nat) (w : World) :
    Calls Try.prog 12 #[.slice q l.len c] w fun z w' => z = .returned (.agg #[.slice none 0 0, .slice (some ⟨w.heap.size + 1 + 1, 0, none⟩) 1 1]) ∧ OneAt w' w.heap.size l q c 2 ∧ w'.heap.size = w.heap.size + 1 + 1 + 1 ∧ Below w.heap.size w w' := by
  obtain ⟨W0, hW0, k0, k1, k2, hB0, hz0⟩ := three w (.cells #[.slice none 0 0, .slice (some ⟨w.heap.size + 1 + 1, 0, none⟩) 1 1] 25) (.cells #[.string (str [120]), .int .i64 1, .int .i64 0, .bool false, .string (str [114]), .int .i64 2, .int .i64 2, .bool false] 61) (.cells #[.string (str [102]), .slice none 0 0, .slice (some ⟨w.heap.size + 1, 0, none⟩) 2 2, .slice none 0 0, .slice q l.len c] 35)
  go_enter Try.func12, Try.ntmps12
  go_wp2_with fail
  erw [hW0]
  have y0 := cell_blk k0 (j := 0) rfl
  have y1 := cell_blk k0 (j := 1) rfl
  refine bodyPost_ret (v := .agg #[.slice none 0 0, .slice (some ⟨w.heap.size + 1 + 1, 0, none⟩) 1 1]) ?_ rfl ⟨rfl, ⟨k1, k2⟩, hz0, hB0⟩
  simp [results, Try.results12, go_sem, y0, y1]
end Go.Proofs.Ytldjcnpkgbdlpaa
/- the chapter's programs. -/
namespace Go.Proofs.Ytldjcnpkgbdlpaa
open Go.RowKit

def ex0 : Ex := .mk 0 0 [] .nil
def mkSt (kd : Int) (nm : List UInt8) (e : Ex) (bd : Sts) : St := .mk kd nm [] e ex0 .nil 0 0 bd .nil
def mkC (kd : Int) (nm : List UInt8) (e : Ex) (pe : Option Addr) (ce : Nat) (bd : Sts) (pb : Option Addr) (cb : Nat) : Array Value :=
  #[.int .i64 kd, .string (str nm), .slice none 0 0, .int .i64 e.op, .int .u64 (e.word : Int), .string (str e.name), .slice pe e.args.len ce, .int .i64 0, .int .u64 0, .string (str []), .slice none 0 0, .slice none 0 0, .int .u64 0, .int .u64 0, .slice pb bd.len cb, .slice none 0 0]
theorem st_in {w : World} {N b : Nat} {kd : Int} {nm : List UInt8} {e : Ex} {pe : Option Addr} {ce : Nat} {bd : Sts} {pb : Option Addr} {cb : Nat} {t : TypeId} (h : w.heap[b]? = some (.cells (mkC kd nm e pe ce bd pb cb) t (0, 0))) (hb : b < N) (hw : e.word < 18446744073709551616) (he : e.args.In w N pe) (hbd : bd.In w N pb) : Sts.In w N (.cons (mkSt kd nm e bd) .nil) (some ⟨b, 0, none⟩) := by
  refine ⟨show 1 ≤ 140737488355328 by decide, .inr ⟨b, 0, rfl, hb, ?_, trivial⟩⟩
  obtain ⟨op, wd, en, as'⟩ := e
  have y0 := cell_blk h (j := 0) rfl
  have y1 := cell_blk h (j := 1) rfl
  have y2 := cell_blk h (j := 2) rfl
  have y3 := cell_blk h (j := 3) rfl
  have y4 := cell_blk h (j := 4) rfl
  have y5 := cell_blk h (j := 5) rfl
  have y6 := cell_blk h (j := 6) rfl
  have y7 := cell_blk h (j := 7) rfl
  have y8 := cell_blk h (j := 8) rfl
  have y9 := cell_blk h (j := 9) rfl
  have y10 := cell_blk h (j := 10) rfl
  have y11 := cell_blk h (j := 11) rfl
  have y12 := cell_blk h (j := 12) rfl
  have y13 := cell_blk h (j := 13) rfl
  have y14 := cell_blk h (j := 14) rfl
  have y15 := cell_blk h (j := 15) rfl
  have hz : ∀ A : Nat → Nat → Prop, Sl N none 0 A := fun A => ⟨Nat.zero_le _, .inl rfl⟩
  exact ⟨⟨y0, y1, y12, y13, by decide, by decide⟩, ⟨none, 0, y2, Nat.zero_le _, hz _⟩, ⟨⟨y3, y4, y5, hw⟩, ⟨pe, ce, y6, he⟩⟩, ⟨⟨y7, y8, y9, by decide⟩, ⟨none, 0, y10, hz _⟩⟩, ⟨none, 0, y11, hz _⟩, ⟨pb, cb, y14, hbd⟩, ⟨none, 0, y15, hz _⟩⟩

def asgP (nm : List UInt8) (v : Nat) : Prg := oneP (.cons (mkSt 1 nm (.mk 1 v [] .nil) .nil) .nil)
def rgA (a : Int) : Rgn := ⟨[97], a, 1, false⟩
theorem r1 : mayR (oneP .nil) = 0 := by kernel_rfl
theorem r2 : mayR ⟨[], []⟩ = 13 := by kernel_rfl
theorem r3 : mayR ⟨[rgA 0, rgA 8], (oneP .nil).fns⟩ = 8 := by kernel_rfl
theorem r4 : mayR ⟨[rgA 4], (oneP .nil).fns⟩ = 14 := by kernel_rfl
theorem r5 : mayR (asgP [121] 0) = 8 := by kernel_rfl
theorem r6 : mayR (asgP [114] 0) = 9 := by kernel_rfl
theorem r7 : mayR (asgP [120] 3) = 0 := by kernel_rfl
end Go.Proofs.Ytldjcnpkgbdlpaa
