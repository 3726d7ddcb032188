/- the chapter's programs. -/
import Derived.Test.YthdjkjnkjkakpaaK5
import Derived.Test.YthdjkjnkjkakpaaL1
namespace Go.Proofs.Ythdjkjnkjkakpaa
open Go.RowKit

def ex0 : Ex := .mk 0 0 [] .nil
def mkSt (kd : Int) (nm : List UInt8) (e : Ex) (bd : Sts) : St := .mk kd nm [] e ex0 .nil 0 0 bd .nil
def mkC (kd : Int) (nm : List UInt8) (e : Ex) (pe : Option Addr) (ce : Nat) (bd : Sts) (pb : Option Addr) (cb : Nat) : Array Value :=
  #[.int .i64 kd, .string (str nm), .slice none 0 0, .int .i64 e.op, .int .u64 (e.word : Int), .string (str e.name), .slice pe e.args.len ce, .int .i64 0, .int .u64 0, .string (str []), .slice none 0 0, .slice none 0 0, .int .u64 0, .int .u64 0, .slice pb bd.len cb, .slice none 0 0]
theorem st_in {w : World} {N b : Nat} {kd : Int} {nm : List UInt8} {e : Ex} {pe : Option Addr} {ce : Nat} {bd : Sts} {pb : Option Addr} {cb : Nat} {t : TypeId} (h : w.heap[b]? = some (.cells (mkC kd nm e pe ce bd pb cb) t (0, 0))) (hb : b < N) (hw : e.word < 18446744073709551616) (he : e.args.In w N pe) (hbd : bd.In w N pb) : Sts.In w N (.cons (mkSt kd nm e bd) .nil) (some ⟨b, 0, none⟩) := by
  refine ⟨show 1 ≤ 140737488355328 by decide, .inr ⟨b, 0, rfl, hb, ?_, trivial⟩⟩
  obtain ⟨op, wd, en, as'⟩ := e
  have y0 := cell_blk h (j := 0) rfl
  have y1 := cell_blk h (j := 1) rfl
  have y2 := cell_blk h (j := 2) rfl
  have y3 := cell_blk h (j := 3) rfl
  have y4 := cell_blk h (j := 4) rfl
  have y5 := cell_blk h (j := 5) rfl
  have y6 := cell_blk h (j := 6) rfl
  have y7 := cell_blk h (j := 7) rfl
  have y8 := cell_blk h (j := 8) rfl
  have y9 := cell_blk h (j := 9) rfl
  have y10 := cell_blk h (j := 10) rfl
  have y11 := cell_blk h (j := 11) rfl
  have y12 := cell_blk h (j := 12) rfl
  have y13 := cell_blk h (j := 13) rfl
  have y14 := cell_blk h (j := 14) rfl
  have y15 := cell_blk h (j := 15) rfl
  have hz : ∀ A : Nat → Nat → Prop, Sl N none 0 A := fun A => ⟨Nat.zero_le _, .inl rfl⟩
  exact ⟨⟨y0, y1, y12, y13, by decide, by decide⟩, ⟨none, 0, y2, Nat.zero_le _, hz _⟩, ⟨⟨y3, y4, y5, hw⟩, ⟨pe, ce, y6, he⟩⟩, ⟨⟨y7, y8, y9, by decide⟩, ⟨none, 0, y10, hz _⟩⟩, ⟨none, 0, y11, hz _⟩, ⟨pb, cb, y14, hbd⟩, ⟨none, 0, y15, hz _⟩⟩

def asgP (nm : List UInt8) (v : Nat) : Prg := oneP (.cons (mkSt 1 nm (.mk 1 v [] .nil) .nil) .nil)
def rgA (a : Int) : Rgn := ⟨[97], a, 1, false⟩
theorem r1 : mayR (oneP .nil) = 0 := by kernel_rfl
theorem r2 : mayR ⟨[], []⟩ = 13 := by kernel_rfl
theorem r3 : mayR ⟨[rgA 0, rgA 8], (oneP .nil).fns⟩ = 8 := by kernel_rfl
theorem r4 : mayR ⟨[rgA 4], (oneP .nil).fns⟩ = 14 := by kernel_rfl
theorem r5 : mayR (asgP [121] 0) = 8 := by kernel_rfl
theorem r6 : mayR (asgP [114] 0) = 9 := by kernel_rfl
theorem r7 : mayR (asgP [120] 3) = 0 := by kernel_rfl
end Go.Proofs.Ythdjkjnkjkakpaa
