/- Steps that come in, as they are read. -/
import Derived.Test.YtajjpaabkdgjbaaDB
namespace Go.Proofs.Ytajjpaabkdgjbaa
open Go.ChangeShapes Go.WideShapes Go.ChangeAt Go.RowKit

/-- a step -/
structure Stp where
  kind : Int
  addr : Nat
  x : Nat
/-- steps as they lie -/
def StpAt (w : World) : List Stp → Nat → Nat → Prop
  | [], _, _ => True
  | s :: r, b, o => (w.cell? ⟨b, o, none⟩ = some (.int .i64 s.kind) ∧ w.cell? ⟨b, o + 1, none⟩ = some (.int .u64 (s.addr : Int)) ∧ w.cell? ⟨b, o + 2, none⟩ = some (.int .u64 (s.x : Int)) ∧
      s.addr < 18446744073709551616 ∧ s.x < 18446744073709551616) ∧ StpAt w r b (o + 3)
def StpIn (w : World) (N : Nat) (l : List Stp) (p : Option Addr) : Prop :=
  l.length ≤ 9223372036854775807 ∧ (l.length = 0 ∨ ∃ b o, p = some ⟨b, o, none⟩ ∧ b < N ∧ StpAt w l b o)
theorem StpAt.later {w w' : World} {n b : Nat} (hB : Below n w w') (hb : b < n) : ∀ (l : List Stp) (o : Nat), StpAt w l b o → StpAt w' l b o
  | [], _, _ => trivial
  | s :: r, o, h => by
    obtain ⟨⟨h1, h2, h3, h4, h5⟩, h6⟩ := h
    exact ⟨⟨(hB.cell (p := ⟨b, o, none⟩) hb).trans h1, (hB.cell (p := ⟨b, o + 1, none⟩) hb).trans h2, (hB.cell (p := ⟨b, o + 2, none⟩) hb).trans h3, h4, h5⟩, StpAt.later hB hb r (o + 3) h6⟩
theorem StpIn.later {w w' : World} {N n : Nat} {l : List Stp} {p : Option Addr} (h : StpIn w N l p) (hB : Below n w w') (hN : N ≤ n) : StpIn w' N l p := by
  refine ⟨h.1, ?_⟩
  rcases h.2 with h0 | ⟨b, o, hp, hb, hc⟩
  · exact .inl h0
  · exact .inr ⟨b, o, hp, hb, StpAt.later hB (Nat.lt_of_lt_of_le hb hN) l o hc⟩
theorem StpAt.drop {w : World} {b : Nat} : ∀ (ds rs : List Stp) (o : Nat), StpAt w (ds ++ rs) b o → StpAt w rs b (o + ds.length * 3)
  | [], _, _, h => by simpa using h
  | _ :: ds, rs, o, h => by
    have := StpAt.drop ds rs (o + 3) h.2
    rw [show o + 3 + ds.length * 3 = o + (ds.length + 1) * 3 by omega] at this
    exact this
theorem stp_of (w : World) (b : Nat) : ∀ (n off : Nat), (∀ i, i < n → ∃ y : Stp, w.cell? ⟨b, off + i * 3, none⟩ = some (.int .i64 y.kind) ∧ w.cell? ⟨b, off + i * 3 + 1, none⟩ = some (.int .u64 (y.addr : Int)) ∧ w.cell? ⟨b, off + i * 3 + 2, none⟩ = some (.int .u64 (y.x : Int)) ∧
      y.addr < 18446744073709551616 ∧ y.x < 18446744073709551616) →
    ∃ l : List Stp, l.length = n ∧ StpAt w l b off
  | 0, _, _ => ⟨[], rfl, trivial⟩
  | n + 1, off, h => by
    obtain ⟨y, h0⟩ := h 0 (Nat.succ_pos _)
    rw [Nat.zero_mul, Nat.add_zero] at h0
    obtain ⟨l, hl, hp⟩ := stp_of w b n (off + 3) fun i hi => by
      have := h (i + 1) (by omega)
      rw [show off + (i + 1) * 3 = off + 3 + i * 3 by omega] at this; exact this
    exact ⟨y :: l, by simp [hl], h0, hp⟩
theorem three {α : Type} {cs : List α} (h : cs.length = 3) : ∃ a b c, cs = [a, b, c] := by
  match cs, h with
  | [a, b, c], _ => exact ⟨a, b, c, rfl⟩
section
variable {H : Type} {enc : TypeId × Value → H} {w : World}
theorem cellsStp : Try.prog.cellsOf 78 = 3 := by kernel_rfl
theorem cOneI : Try.prog.cellsOf 3 = 1 := by kernel_rfl
theorem open_steps {fuel n c : Nat} {p : Option Addr} {x : DataW H × List MemPlace} (h : DataW.trod enc Try.prog w 0 (fun _ => true) true fuel 24 [.slice p n c] = some x) :
    ∃ l : List Stp, n = l.length ∧ StpIn w w.heap.size l p ∧ l.length ≤ c ∧ c ≤ 9223372036854775807 ∧ (p = none → c = 0) := by
  obtain ⟨c1, c2, c3⟩ := slice_caps Try.underlying24 h
  unfold maxLen at c3
  rcases slice_cells cellsStp (by decide) Try.underlying24 h with h0 | ⟨b, off, m, rfl, hbl, hel⟩
  · exact ⟨[], h0, ⟨by simp, .inl rfl⟩, by simp, c3, c1⟩
  · obtain ⟨l, hl, hp⟩ := stp_of w b n off (fun i hi => by
      obtain ⟨cs', y, hl, hc, hr⟩ := hel i hi
      obtain ⟨xs, n', _, _, hl, hx, hf⟩ := DataW.trod_struct Try.underlying78 hr
      rw [cellsStp] at hl
      obtain ⟨a, b', c', rfl⟩ := three hl
      obtain ⟨x0, x1, x2, rfl⟩ := three hx
      have h0 : DataW.trod enc Try.prog w 0 (fun _ => true) true n' 3 (List.take (Try.prog.cellsOf 3) [a, b', c']) = some x0 := hf 0 _ rfl
      have h1 : DataW.trod enc Try.prog w 0 (fun _ => true) true n' 25 (List.take (Try.prog.cellsOf 25) [b', c']) = some x1 := hf 1 _ rfl
      have h2 : DataW.trod enc Try.prog w 0 (fun _ => true) true n' 25 (List.take (Try.prog.cellsOf 25) [c']) = some x2 := hf 2 _ rfl
      rw [cOneI] at h0
      rw [cellsU] at h1 h2
      obtain ⟨z0, e0, _, _⟩ := DataW.trod_int Try.underlying3 h0
      obtain ⟨z1, e1, _, w1⟩ := DataW.trod_int Try.underlying25 h1
      obtain ⟨z2, e2, _, w2⟩ := DataW.trod_int Try.underlying25 h2
      simp at e0 e1 e2
      subst e0; subst e1; subst e2
      have g1 : 0 ≤ z1 ∧ z1 < 18446744073709551616 := by
        simp [Lit.wf, IntKind.bits, IntKind.signed, IntKind.max, IntKind.min] at w1; omega
      have g2 : 0 ≤ z2 ∧ z2 < 18446744073709551616 := by
        simp [Lit.wf, IntKind.bits, IntKind.signed, IntKind.max, IntKind.min] at w2; omega
      refine ⟨⟨z0, z1.toNat, z2.toNat⟩, hc 0 (by decide), ?_, ?_, ?_, ?_⟩
      · show _ = some (Value.int IntKind.u64 ((z1.toNat : Nat) : Int))
        rw [show ((z1.toNat : Nat) : Int) = z1 by omega]; exact hc 1 (by decide)
      · show _ = some (Value.int IntKind.u64 ((z2.toNat : Nat) : Int))
        rw [show ((z2.toNat : Nat) : Int) = z2 by omega]; exact hc 2 (by decide)
      · show z1.toNat < _
        omega
      · show z2.toNat < _
        omega)
    exact ⟨l, hl.symm, ⟨by omega, .inr ⟨b, off, rfl, hbl, hp⟩⟩, by omega, c3, c1⟩
end
end Go.Proofs.Ytajjpaabkdgjbaa
