/- Texts of expressions; rows of bytes that grow. -/
import Derived.Test.YtlhbledakddbbaaGreatDoorA3
import Derived.Test.YtlhbledakddbbaaGreatDoorB2
import Derived.Test.YtlhbledakddbbaaGreatDoorShelf
import Derived.Lib.AppendStr
import Derived.Lib.OthersKept
import Derived.Lib.OwnKind
import Derived.Lib.BufferKept
import Derived.Lib.AppendIntMem
import Derived.Lib.ItoaNum
import Derived.Laws.IdiomStrings
import Derived.Deep.RegionLaw
namespace Go.Proofs.YtlhbledakddbbaaGreatDoor
open Go.RowKit

def textOf (op : Int) (x : Nat) (nm : List UInt8) (ts : List (List UInt8)) : List UInt8 :=
  if op = 1 then Lib.decDigits x else if op = 2 then nm else if op = 3 then nm ++ [91] ++ ts.getD 0 [] ++ [93] else if op = 4 then [126] ++ ts.getD 0 [] else if op = 5 then [45] ++ ts.getD 0 []
  else if op = 21 then [112, 105, 99, 107] ++ [40] ++ Lib.join ts [44, 32] ++ [41] else [40] ++ ts.getD 0 [] ++ [32] ++ signOf op ++ [32] ++ ts.getD 1 [] ++ [41]
mutual
def Ex.text : Ex → List UInt8
  | .mk op x nm a => textOf op x nm a.texts
def Exs.texts : Exs → List (List UInt8)
  | .nil => []
  | .cons x r => x.text :: r.texts
end
theorem info_u8 : (Tryz.prog.info? 5).map (fun i => (i.zero, i.size, i.bytes)) = some (some (.int .u8 0), 1, 1) := by kernel_rfl
theorem info_parts' : ∃ i, Tryz.prog.info? 5 = some i ∧ i.zero = some (.int .u8 0) ∧ i.size = 1 ∧ i.bytes = 1 := by
  obtain ⟨i0, hi, hz0, hz1, hz2⟩ := info_parts info_u8
  exact ⟨i0, hi, hz0, hz1, hz2⟩
theorem conv_nil (w : World) : (convert 83 9 (.slice none 0 0)).run Tryz.prog w = .ok (.string (str [])) w := by kernel_rfl
/-- a row of bytes that the call has made -/
def BRow (B : Nat) (w : World) (l : List UInt8) (v : Value) : Prop := w.ownsRow B 5 1 v l.length (Lib.byteCells l)
theorem BRow.nil (B : Nat) (w : World) : BRow B w [] (.slice none 0 0) := ⟨rfl, .inl ⟨rfl, rfl⟩⟩
theorem BRow.base {B : Nat} {w : World} {l : List UInt8} {v : Value} (h : BRow B w l v) : ∀ k, v.ownBlock = some k → B ≤ k := by
  intro k hk
  rcases h.2 with ⟨rfl, _⟩ | ⟨g, cap, cur, rfl, hg, _⟩
  · cases hk
  · have : g = k := by simpa [Value.ownBlock] using hk
    omega
theorem BRow.later {B : Nat} {w w' : World} {l : List UInt8} {v : Value} (h : BRow B w l v) (hB : Below w.heap.size w w') : BRow B w' l v := by
  obtain ⟨h2, h3⟩ := h
  refine ⟨h2, ?_⟩
  rcases h3 with h3 | ⟨g, cap, cur, q1, q2, q3, q4⟩
  · exact .inl h3
  · exact .inr ⟨g, cap, cur, q1, q2, (hB.block g (lt_of_block q3)).trans q3, q4⟩
theorem BRow.conv {B : Nat} {w : World} {l : List UInt8} {v : Value} (h : BRow B w l v) : (convert 83 9 v).run Tryz.prog w = .ok (.string (str l)) w := by
  obtain ⟨hl, ⟨rfl, h0⟩ | ⟨g, cap, cur, rfl, hg, hh, hn, hcap, hcs, ht⟩⟩ := h
  · have := List.length_eq_zero_iff.1 h0; subst this; exact conv_nil w
  · exact run_convert_bytes_back (P := Tryz.prog) w 83 9 5 ⟨g, 0, none⟩ cap l Tryz.underlying83 Tryz.underlying5 Tryz.underlying9 (fun j hj => by
      have e : (⟨g, 0, none⟩ : Addr).add j = ⟨g, j, none⟩ := by
        rcases j with _ | j
        · rfl
        · simp [Addr.add]
      have h1 : (Lib.byteCells l)[j]? = some (.int .u8 l[j].toNat) := by rw [Lib.byteCells, List.getElem?_map, List.getElem?_eq_getElem hj]; rfl
      rw [← ht, List.getElem?_take_of_lt (by omega), Array.getElem?_toList] at h1
      rw [e]; simp [World.cell?, hh, h1])
/-- what a maker of bytes leaves as it was -/
def Fr (B : Nat) (w w' : World) : Prop := Below B w w' ∧ Lib.OthersKept 5 none w w'
theorem Fr.refl (B : Nat) (w : World) : Fr B w w := ⟨Below.refl _ _, Lib.OthersKept.refl _ _ _⟩
theorem Fr.trans {B : Nat} {a b c : World} (h : Fr B a b) (k : Fr B b c) : Fr B a c := ⟨h.1.trans k.1, h.2.trans k.2⟩
theorem Fr.drew {B : Nat} {a b : World} (h : Fr B a b) : Fr B a b.drew := ⟨h.1.drew, h.2.drew⟩
theorem Fr.drewN {B : Nat} {a b : World} (h : Fr B a b) (n : Nat) : Fr B a (b.drewN n) := ⟨below_drewN h.1 n, h.2.drewN n⟩
theorem Fr.alloc {B : Nat} {a b : World} (h : Fr B a b) (hb : B ≤ b.heap.size) (o : Obj) : Fr B a (b.alloc o) := ⟨h.1.alloc hb o, h.2.alloc o⟩
theorem Fr.of_below {B : Nat} {w w' : World} (h : Below w.heap.size w w') (hb : B ≤ w.heap.size) : Fr B w w' := ⟨h.mono hb, (Lib.OthersKept.refl _ _ w).below h⟩
/-- a cell of another make stays -/
theorem Fr.cell {B : Nat} {w w' : World} (h : Fr B w w') {g : Nat} {cs : Array Value} {t : TypeId} {fz : Nat × Nat} (hg : w.heap[g]? = some (.cells cs t fz)) (ht : t ≠ 5) : w'.heap[g]? = some (.cells cs t fz) :=
  h.2 g _ hg (by simp) (fun c fz' e => ht (by injection e))
theorem brow_app {B : Nat} {w w1 : World} {v v' : Value} {bs : List UInt8} {c : UInt8} {o : Obj} (h : BRow B w bs v) (hB : B ≤ w.heap.size) (hown : w1.ownsRow B 5 1 v' (bs.length + 1) (Lib.byteCells bs ++ [.int .u8 (c.toNat : Int)])) (hg : (w.alloc o).grownBy w1 v.ownBlock) :
    BRow B w1 (bs ++ [c]) v' ∧ Fr B w w1 := by
  refine ⟨?_, ?_, ?_⟩
  · unfold BRow; rw [List.length_append]; simpa [Lib.byteCells] using hown
  · exact ((Below.refl B w).alloc hB o).grown hg (by simp; omega) (fun k hk => h.base k hk)
  · exact ((Lib.OthersKept.refl _ _ w).alloc o).grown hg (fun k hk => by
      obtain ⟨c, fz, hc⟩ := Lib.ownsRow_kind h k hk
      exact ⟨c, fz, (Below.heap_alloc _ _ _ (lt_of_block hc)).trans hc⟩)
theorem brow_apps {B : Nat} {w w1 : World} {v v' : Value} {bs : List UInt8} {s : ByteArray} (h : BRow B w bs v) (hB : B ≤ w.heap.size) (hown : w1.ownsRow B 5 1 v' (bs.length + s.size) (Lib.byteCells bs ++ Lib.strCells s)) (hg : w.grownBy w1 v.ownBlock) :
    BRow B w1 (bs ++ s.data.toList) v' ∧ Fr B w w1 := by
  refine ⟨?_, ?_, ?_⟩
  · unfold BRow; rw [List.length_append, ← size_len]; simpa [Lib.byteCells, Lib.strCells] using hown
  · exact (Below.refl B w).grown hg hB (fun k hk => h.base k hk)
  · exact (Lib.OthersKept.refl _ _ w).grown hg (fun k hk => Lib.ownsRow_kind h k hk)
/-- what the makers of texts lean on -/
structure TEnv (B m : Nat) (w : World) : Prop where
  mp : w.heap[m]? = some (fmap signT)
  mB : m < B
  gl : Lib.TabBelow Tryz.prog B w "internal/strconv.uint64pow10" .u64 Lib.pow10Tab
  bw : B ≤ w.heap.size
theorem TEnv.later {B m : Nat} {w w' : World} (h : TEnv B m w) (hB : Below B w w') : TEnv B m w' :=
  ⟨(hB.block m h.mB).trans h.mp, h.mB, fun w2 h2 => h.gl w2 (hB.trans h2), Nat.le_trans h.bw hB.size⟩

set_option maxHeartbeats 1600000 in
theorem appendUint_any (B u : Nat) (bs : List UInt8) (v : Value) (m : Nat) (w : World) (hu : u < 18446744073709551616) (h : BRow B w bs v) (he : TEnv B m w) (hl : bs.length ≤ 1000000000) :
    Calls Tryz.prog 118 #[v, .int .u64 u, .int .i64 10] w fun e w' => (∃ v', e = .returned v' ∧ BRow B w' (bs ++ Lib.decDigits u) v') ∧ Fr B w w' := by
  have HC := Lib.hid (Tryz.internal_strconv_AppendUint_10 B bs.length u hu v (Lib.byteCells bs) w h he.bw (by omega) he.gl.here)
  clear h he
  go_enter Tryz.func118, Tryz.ntmps118
  go_wp2_with fail
  refine HC.out.mono ?_
  rintro e w2 ⟨v', rfl, hown, hB, hO⟩
  have HR := Lib.hid (show BRow B w2 (bs ++ Lib.decDigits u) v' by unfold BRow; rw [List.length_append]; simpa [Lib.byteCells] using hown)
  have HF := Lib.hid (show Fr B w w2 from ⟨hB, hO⟩)
  clear hown hB hO
  go_wp2_with fail
  go_ret
  exact ⟨⟨v', rfl, HR.out⟩, HF.out⟩
end Go.Proofs.YtlhbledakddbbaaGreatDoor
