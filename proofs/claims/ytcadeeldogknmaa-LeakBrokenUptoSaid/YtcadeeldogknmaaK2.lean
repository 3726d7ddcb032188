/- K1, S2, K2 as one. -/
import Derived.Test.YtcadeeldogknmaaRC
import Derived.Test.YtcadeeldogknmaaS1
/- The chapter's rows. -/
namespace Go.Proofs.Ytcadeeldogknmaa
open Go.RowKit
set_option maxHeartbeats 1600000 in
theorem line_any (a : Option Addr) (n c : Nat) (w : World) :
    Calls Try.prog 15 #[.slice a n c] w fun e w' => e = .returned (.agg #[.int .i64 1, .slice a n c, .bool false, .slice none 0 0]) ∧ w.alloc (Obj.cells #[.int .i64 1, .slice a n c, .bool false, .slice none 0 0] 47) = w' := by
  go_enter Try.func15, Try.ntmps15
  go_wp2_with fail
  exact bodyPost_ret (by simp [results, Try.results15, go_sem]) rfl ⟨rfl, rfl⟩

def lfK : Lf := .node 1 [8, 16] false .nil (.node 2 [24] true (.sub (.node 1 [32] false .nil .nil) .nil) .nil)
def W1 (w : World) : World := ((((((((w.alloc (Obj.cells #[.int .u64 8, .int .u64 16] 24)).alloc (Obj.cells #[.int .i64 1, .slice (some ⟨w.heap.size, 0, none⟩) 2 2, .bool false, .slice none 0 0] 47)).alloc (Obj.cells #[.int .u64 24] 24)).alloc (Obj.cells #[.int .u64 32] 24)).alloc (Obj.cells #[.int .i64 1, .slice (some ⟨w.heap.size + 1 + 1 + 1, 0, none⟩) 1 1, .bool false, .slice none 0 0] 47)).alloc (Obj.cells #[.int .i64 1, .slice (some ⟨w.heap.size + 1 + 1 + 1, 0, none⟩) 1 1, .bool false, .slice none 0 0] 47)).alloc (Obj.cells #[.slice (some ⟨w.heap.size + 1 + 1 + 1 + 1 + 1, 0, none⟩) 1 1] 23)).alloc (Obj.cells #[.int .i64 1, .slice (some ⟨w.heap.size, 0, none⟩) 2 2, .bool false, .slice none 0 0, .int .i64 2, .slice (some ⟨w.heap.size + 1 + 1, 0, none⟩) 1 1, .bool true, .slice (some ⟨w.heap.size + 1 + 1 + 1 + 1 + 1 + 1, 0, none⟩) 1 1] 47))
theorem W1_size (w : World) : (W1 w).heap.size = w.heap.size + 8 := by simp [W1]
theorem W1_in (w : World) : lfK.In (W1 w) (W1 w).heap.size (some ⟨w.heap.size + 1 + 1 + 1 + 1 + 1 + 1 + 1, 0, none⟩) := by
  have hs := W1_size w
  have c : ∀ b o v, (W1 w).cell? ⟨b, o, none⟩ = v → (W1 w).cell? ⟨b, o, none⟩ = v := fun _ _ _ h => h
  refine ⟨by decide, .inr ⟨_, _, rfl, by omega, by simp [W1, go_sem], ⟨some ⟨w.heap.size, 0, none⟩, 2, by simp [W1, go_sem], by decide, .inr ⟨_, _, rfl, by omega, by simp [W1, go_sem], by simp [W1, go_sem], trivial⟩⟩, by simp [W1, go_sem], ⟨none, 0, by simp [W1, go_sem, Ls.len], by decide, .inl rfl⟩,
    by simp [W1, go_sem], ⟨some ⟨w.heap.size + 1 + 1, 0, none⟩, 1, by simp [W1, go_sem], by decide, .inr ⟨_, _, rfl, by omega, by simp [W1, go_sem], trivial⟩⟩, by simp [W1, go_sem],
    ⟨some ⟨w.heap.size + 1 + 1 + 1 + 1 + 1 + 1, 0, none⟩, 1, by simp [W1, go_sem, Ls.len], by decide, .inr ⟨_, _, rfl, by omega, ⟨some ⟨w.heap.size + 1 + 1 + 1 + 1 + 1, 0, none⟩, 1, by simp [W1, go_sem, Lf.len], by decide, .inr ⟨_, _, rfl, by omega, by simp [W1, go_sem], ⟨some ⟨w.heap.size + 1 + 1 + 1, 0, none⟩, 1, by simp [W1, go_sem], by decide, .inr ⟨_, _, rfl, by omega, by simp [W1, go_sem], trivial⟩⟩, by simp [W1, go_sem], ⟨none, 0, by simp [W1, go_sem, Ls.len], by decide, .inl rfl⟩, trivial⟩⟩, trivial⟩⟩, trivial⟩⟩
theorem W1_bel (w : World) : Below w.heap.size w (W1 w) := by
  unfold W1
  exact (((((((((Below.refl _ w).alloc (Nat.le_refl _) _).alloc (by simp) _).alloc (by simp; omega) _).alloc (by simp; omega) _).alloc (by simp; omega) _).alloc (by simp; omega) _).alloc (by simp; omega) _).alloc (by simp; omega) _)
theorem flatK (w : World) : Calls Try.prog 16 #[.slice (some ⟨w.heap.size + 1 + 1 + 1 + 1 + 1 + 1 + 1, 0, none⟩) 2 2] (W1 w) fun e w1 => ∃ g c, e = .returned (.tuple #[.slice (some ⟨g, 0, none⟩) 5 c, .int .i64 0]) ∧ Below w.heap.size w w1 ∧ SnIn w1 w1.heap.size lfK.flat (some ⟨g, 0, none⟩) :=
  (Flat_ok lfK _ 2 _ (W1 w) (W1_in w) (Nat.le_refl _) (by decide)).mono fun e w1 ⟨v, he, hb, hown⟩ => by
    obtain ⟨g, c, rfl⟩ := own_form hown (by decide)
    refine ⟨g, c, he, (W1_bel w).trans (hb.mono (W1_bel w).size), by decide, .inr ⟨g, 0, rfl, (hown.lt g rfl).2, ?_⟩⟩
    have hc := hown.cellAt
    refine ⟨fun j u hj => ?_, fun j u hj => ?_, fun j u hj => ?_, fun j u hj => ?_, fun j u hj => ?_, trivial⟩
    all_goals (match j, hj with
      | 0, hj => rw [hc _ (by decide), ← hj]; rfl
      | 1, hj => rw [hc _ (by decide), ← hj]; rfl
      | 2, hj => rw [hc _ (by decide), ← hj]; rfl)
def W2 (u : World) : World := (((((((u.alloc (Obj.cells #[.bool false, .bool false, .int .u64 8, .bool false, .bool false, .int .u64 16, .bool false, .bool false, .int .u64 24, .bool true, .bool false, .int .u64 0, .bool false, .bool false, .int .u64 32] 53)).alloc (Obj.cells #[.int .i64 3, .int .i64 0, .int .u64 100, .bool true] 56)).alloc (Obj.cells #[.slice (some ⟨u.heap.size + 1, 0, none⟩) 1 1] 57)).alloc (Obj.cells #[.int .i64 2, .slice (some ⟨u.heap.size + 1 + 1, 0, none⟩) 1 1, .bool false, .slice none 0 0] 37)).alloc (Obj.cells #[.int .u64 2] 24)).alloc (Obj.cells #[.int .i64 1, .slice (some ⟨u.heap.size + 1 + 1 + 1 + 1, 0, none⟩) 1 1, .bool false, .slice none 0 0] 47)).alloc (Obj.cells #[.int .i64 1, .slice (some ⟨u.heap.size + 1 + 1 + 1 + 1, 0, none⟩) 1 1, .bool false, .slice none 0 0] 47))
theorem W2_size (w : World) : (W2 w).heap.size = w.heap.size + 7 := by simp [W2]
theorem W2_bel (u : World) : Below u.heap.size u (W2 u) := by
  unfold W2
  exact ((((((((Below.refl _ u).alloc (Nat.le_refl _) _).alloc (by simp) _).alloc (by simp; omega) _).alloc (by simp; omega) _).alloc (by simp; omega) _).alloc (by simp; omega) _).alloc (by simp; omega) _)
theorem W2_t (u : World) : tfA.In (W2 u) (W2 u).heap.size (some ⟨u.heap.size + 1 + 1 + 1, 0, none⟩) := by
  have hs := W2_size u
  exact ⟨by decide, .inr ⟨_, _, rfl, by omega, by simp [W2, go_sem], ⟨some ⟨u.heap.size + 1 + 1, 0, none⟩, 1, by simp [W2, go_sem], by decide, .inr ⟨_, _, rfl, by omega, ⟨some ⟨u.heap.size + 1, 0, none⟩, 1, by simp [W2, go_sem], by decide, .inr ⟨_, _, rfl, by omega, ⟨by simp [W2, go_sem, pkA], by simp [W2, go_sem, pkA], by simp [W2, go_sem, pkA], by simp [W2, go_sem, pkA]⟩, trivial⟩⟩, trivial⟩⟩, by simp [W2, go_sem], ⟨none, 0, by simp [W2, go_sem, Ts.len], by decide, .inl rfl⟩, trivial⟩⟩
theorem W2_l (u : World) : liA.In (W2 u) (W2 u).heap.size (some ⟨u.heap.size + 1 + 1 + 1 + 1 + 1 + 1, 0, none⟩) := by
  have hs := W2_size u
  exact ⟨by decide, .inr ⟨_, _, rfl, by omega, by simp [W2, go_sem], ⟨some ⟨u.heap.size + 1 + 1 + 1 + 1, 0, none⟩, 1, by simp [W2, go_sem], by decide, .inr ⟨_, _, rfl, by omega, by simp [W2, go_sem], trivial⟩⟩, by simp [W2, go_sem], ⟨none, 0, by simp [W2, go_sem, Ls.len], by decide, .inl rfl⟩, trivial⟩⟩
theorem W2_want (u : World) : SnIn (W2 u) (W2 u).heap.size lfK.flat (some ⟨u.heap.size, 0, none⟩) := by
  have hs := W2_size u
  refine ⟨by decide, .inr ⟨_, _, rfl, by omega, fun j v hj => ?_, fun j v hj => ?_, fun j v hj => ?_, fun j v hj => ?_, fun j v hj => ?_, trivial⟩⟩
  all_goals (match j, hj with
    | 0, hj => simp [Sn.cells] at hj; subst hj; simp [W2, go_sem]
    | 1, hj => simp [Sn.cells] at hj; subst hj; simp [W2, go_sem]
    | 2, hj => simp [Sn.cells] at hj; subst hj; simp [W2, go_sem])
theorem rewA (u : World) : Calls Try.prog 9 #[.slice (some ⟨u.heap.size + 1 + 1 + 1, 0, none⟩) 1 1, .slice (some ⟨u.heap.size + 1 + 1 + 1 + 1 + 1 + 1, 0, none⟩) 1 1, .int .u64 1000, .bool false] (W2 u) fun e w2 => ∃ b2 cc, e = .returned (.tuple #[.slice (some ⟨b2, 0, none⟩) 1 cc, .int .i64 0]) ∧ Below u.heap.size u w2 ∧
    lfA.In w2 w2.heap.size (some ⟨b2, 0, none⟩) ∧ SnIn w2 w2.heap.size lfK.flat (some ⟨u.heap.size, 0, none⟩) :=
  (Rewrite_A (W2 u).heap.size 1 1 _ _ (W2 u) (W2_t u) (W2_l u) (Nat.le_refl _)).mono fun _e _w2 ⟨⟨b2, cc, he, hin⟩, hb⟩ => ⟨b2, cc, he, (W2_bel u).trans (hb.mono (W2_bel u).size), hin, (W2_want u).later hb hb.size⟩
def W3 (u : World) : World := ((((u.alloc (Obj.cells #[.slice none 0 0] 22)).alloc (Obj.cells #[.int .i64 4, .slice none 0 0, .bool true, .slice (some ⟨u.heap.size, 0, none⟩) 1 1] 37)).alloc (Obj.cells #[.slice none 0 0] 23)).alloc (Obj.cells #[.int .i64 2, .slice none 0 0, .bool false, .slice (some ⟨u.heap.size + 1 + 1, 0, none⟩) 1 1] 47))
theorem W3_size (w : World) : (W3 w).heap.size = w.heap.size + 4 := by simp [W3]
theorem W3_bel (u : World) : Below u.heap.size u (W3 u) := by
  unfold W3
  exact (((((Below.refl _ u).alloc (Nat.le_refl _) _).alloc (by simp) _).alloc (by simp; omega) _).alloc (by simp; omega) _)
theorem W3_t (u : World) : tfB.In (W3 u) (W3 u).heap.size (some ⟨u.heap.size + 1, 0, none⟩) := by
  have hs := W3_size u
  exact ⟨by decide, .inr ⟨_, _, rfl, by omega, by simp [W3, go_sem], ⟨none, 0, by simp [W3, go_sem], by decide, .inl rfl⟩, by simp [W3, go_sem], ⟨some ⟨u.heap.size, 0, none⟩, 1, by simp [W3, go_sem, Ts.len], by decide, .inr ⟨_, _, rfl, by omega, ⟨none, 0, by simp [W3, go_sem, Tf.len], by decide, .inl rfl⟩, trivial⟩⟩, trivial⟩⟩
theorem W3_l (u : World) : liB.In (W3 u) (W3 u).heap.size (some ⟨u.heap.size + 1 + 1 + 1, 0, none⟩) := by
  have hs := W3_size u
  exact ⟨by decide, .inr ⟨_, _, rfl, by omega, by simp [W3, go_sem], ⟨none, 0, by simp [W3, go_sem], by decide, .inl rfl⟩, by simp [W3, go_sem], ⟨some ⟨u.heap.size + 1 + 1, 0, none⟩, 1, by simp [W3, go_sem, Ls.len], by decide, .inr ⟨_, _, rfl, by omega, ⟨none, 0, by simp [W3, go_sem, Lf.len], by decide, .inl rfl⟩, trivial⟩⟩, trivial⟩⟩
theorem rewB (u : World) : Calls Try.prog 9 #[.slice (some ⟨u.heap.size + 1, 0, none⟩) 1 1, .slice (some ⟨u.heap.size + 1 + 1 + 1, 0, none⟩) 1 1, .int .u64 0, .bool false] (W3 u) fun e w2 => e = .returned (.tuple #[.slice none 0 0, .int .i64 2]) ∧ Below u.heap.size u w2 :=
  (Rewrite_B (W3 u).heap.size 1 1 _ _ (W3 u) (W3_t u) (W3_l u) (Nat.le_refl _)).mono fun _e _w2 ⟨he, hb⟩ => ⟨he, (W3_bel u).trans (hb.mono (W3_bel u).size)⟩
def W4 (u : World) : World := (((u.alloc (Obj.cells #[.int .u64 1116] 24)).alloc (Obj.cells #[.int .i64 1, .slice (some ⟨u.heap.size, 0, none⟩) 1 1, .bool false, .slice none 0 0] 47)).alloc (Obj.cells #[.int .i64 1, .slice (some ⟨u.heap.size, 0, none⟩) 1 1, .bool false, .slice none 0 0] 47))
theorem W4_size (w : World) : (W4 w).heap.size = w.heap.size + 3 := by simp [W4]
theorem W4_bel (u : World) : Below u.heap.size u (W4 u) := by
  unfold W4
  exact ((((Below.refl _ u).alloc (Nat.le_refl _) _).alloc (by simp) _).alloc (by simp; omega) _)
theorem W4_l (u : World) : lfA.In (W4 u) (W4 u).heap.size (some ⟨u.heap.size + 1 + 1, 0, none⟩) := by
  have hs := W4_size u
  exact ⟨by decide, .inr ⟨_, _, rfl, by omega, by simp [W4, go_sem], ⟨some ⟨u.heap.size, 0, none⟩, 1, by simp [W4, go_sem], by decide, .inr ⟨_, _, rfl, by omega, by simp [W4, go_sem], trivial⟩⟩, by simp [W4, go_sem], ⟨none, 0, by simp [W4, go_sem, Ls.len], by decide, .inl rfl⟩, trivial⟩⟩
end Go.Proofs.Ytcadeeldogknmaa
/- Two leakages of one line of one word. -/
namespace Go.Proofs.Ytcadeeldogknmaa
open Go.RowKit
structure Pair (g a1 p1 d1 d3 a2 p2 d2 d4 : Nat) (q3 q4 : Option Addr) (B : Nat) (w wr : World) : Prop where
  bel : Below B w wr
  x1 : wr.cell? ⟨g, 1, none⟩ = some (.slice (some ⟨a1, p1, none⟩) 1 d1)
  x3 : wr.cell? ⟨g, 3, none⟩ = some (.slice q3 0 d3)
  z1 : wr.cell? ⟨g + 1, 1, none⟩ = some (.slice (some ⟨a2, p2, none⟩) 1 d2)
  z3 : wr.cell? ⟨g + 1, 3, none⟩ = some (.slice q4 0 d4)
  u1 : wr.cell? ⟨a1, p1, none⟩ = some (.int .u64 1116)
  u2 : wr.cell? ⟨a2, p2, none⟩ = some (.int .u64 1116)
theorem Pair.drew {g a1 p1 d1 d3 a2 p2 d2 d4 : Nat} {q3 q4 : Option Addr} {B : Nat} {w wr : World} (h : Pair g a1 p1 d1 d3 a2 p2 d2 d4 q3 q4 B w wr) : Pair g a1 p1 d1 d3 a2 p2 d2 d4 q3 q4 B w wr.drew :=
  ⟨h.bel.drew, h.x1, h.x3, h.z1, h.z3, h.u1, h.u2⟩

set_option maxRecDepth 100000 in
set_option maxHeartbeats 6400000 in
theorem sameA_any (b1 b2 c1 c2 N : Nat) (w : World) (h1 : lfA.In w N (some ⟨b1, 0, none⟩)) (h2 : lfA.In w N (some ⟨b2, 0, none⟩)) (hN : N ≤ w.heap.size) :
    Calls Try.prog 10 #[.slice (some ⟨b1, 0, none⟩) 1 c1, .slice (some ⟨b2, 0, none⟩) 1 c2] w fun e w' => e = .returned (.bool true) ∧ Below w.heap.size w w' := by
  obtain ⟨_, h0 | ⟨b', o', he, hb1, ⟨g0, ⟨q1, d1, g1, ⟨_, hs | ⟨a1, p1, rfl, ha1, ⟨y1, _⟩⟩⟩⟩, g2, ⟨q3, d3, g3, _⟩, _⟩⟩⟩ := h1
  · simp [lfA, Lf.len] at h0
  · simp at hs
  injection he with he
  injection he with e1 e2
  subst e1; subst e2
  obtain ⟨_, h0 | ⟨b', o', he, hb2, ⟨k0, ⟨q2, d2, k1, ⟨_, hs | ⟨a2, p2, rfl, ha2, ⟨y2, _⟩⟩⟩⟩, k2, ⟨q4, d4, k3, _⟩, _⟩⟩⟩ := h2
  · simp [lfA, Lf.len] at h0
  · simp at hs
  injection he with he
  injection he with e1 e2
  subst e1; subst e2
  go_enter Try.func10, Try.ntmps10
  go_wp2_with fail
  have HB0 := Lib.hid (Below.refl w.heap.size w)
  go_loopw [5] (fun i wr => (i = .int .i64 0 ∧ Hid (wr = w)) ∨ (i = .int .i64 1 ∧ Hid (Below w.heap.size w wr))) (fun i _ => 1 - (intOf i).toNat)
  case atStart => exact .inl ⟨rfl, Lib.hid rfl⟩
  case round =>
    rcases hrel with ⟨rfl, hw⟩ | ⟨rfl, hF⟩
    · obtain rfl := hw.out
      clear hw
      have HP := Lib.hid (show ∀ (n3 n4 : Nat), n3 = 0 → n4 = 0 → Pair wr.heap.size a1 p1 d1 d3 a2 p2 d2 d4 q3 q4 wr.heap.size wr (((wr.alloc (Obj.cells #[.int .i64 1, .slice (some ⟨a1, p1, none⟩) 1 d1, .bool false, .slice q3 n3 d3] 47)).alloc (Obj.cells #[.int .i64 1, .slice (some ⟨a2, p2, none⟩) 1 d2, .bool false, .slice q4 n4 d4] 47)).drew) from fun n3 n4 h3 h4 => by
        subst h3; subst h4
        have hb := (((Below.refl _ wr).alloc (Nat.le_refl _) (Obj.cells #[.int .i64 1, .slice (some ⟨a1, p1, none⟩) 1 d1, .bool false, .slice q3 0 d3] 47)).alloc (by simp) (Obj.cells #[.int .i64 1, .slice (some ⟨a2, p2, none⟩) 1 d2, .bool false, .slice q4 0 d4] 47)).drew
        exact ⟨hb, by simp [go_sem], by simp [go_sem], by simp [go_sem], by simp [go_sem], (hb.cell (World.block_lt_of_cell? _ _ y1)).trans y1, (hb.cell (World.block_lt_of_cell? _ _ y2)).trans y2⟩)
      have HP2 := Lib.hid (show ∀ (n4 n3 : Nat), n4 = 0 → n3 = 0 → Pair wr.heap.size a2 p2 d2 d4 a1 p1 d1 d3 q4 q3 wr.heap.size wr (((wr.alloc (Obj.cells #[.int .i64 1, .slice (some ⟨a2, p2, none⟩) 1 d2, .bool false, .slice q4 n4 d4] 47)).alloc (Obj.cells #[.int .i64 1, .slice (some ⟨a1, p1, none⟩) 1 d1, .bool false, .slice q3 n3 d3] 47)).drew) from fun n4 n3 h4 h3 => by
        subst h4; subst h3
        have hb := (((Below.refl _ wr).alloc (Nat.le_refl _) (Obj.cells #[.int .i64 1, .slice (some ⟨a2, p2, none⟩) 1 d2, .bool false, .slice q4 0 d4] 47)).alloc (by simp) (Obj.cells #[.int .i64 1, .slice (some ⟨a1, p1, none⟩) 1 d1, .bool false, .slice q3 0 d3] 47)).drew
        exact ⟨hb, by simp [go_sem], by simp [go_sem], by simp [go_sem], by simp [go_sem], (hb.cell (World.block_lt_of_cell? _ _ y2)).trans y2, (hb.cell (World.block_lt_of_cell? _ _ y1)).trans y1⟩)
      have g0a := fun (o : Obj) => (World.cell?_alloc_past o _ _ (World.block_lt_of_cell? _ _ g0)).trans g0
      have g0b := fun (o o' : Obj) => (World.cell?_alloc_past o' _ _ (World.block_lt_of_cell? _ _ (g0a o))).trans (g0a o)
      have g1a := fun (o : Obj) => (World.cell?_alloc_past o _ _ (World.block_lt_of_cell? _ _ g1)).trans g1
      have g1b := fun (o o' : Obj) => (World.cell?_alloc_past o' _ _ (World.block_lt_of_cell? _ _ (g1a o))).trans (g1a o)
      have g2a := fun (o : Obj) => (World.cell?_alloc_past o _ _ (World.block_lt_of_cell? _ _ g2)).trans g2
      have g2b := fun (o o' : Obj) => (World.cell?_alloc_past o' _ _ (World.block_lt_of_cell? _ _ (g2a o))).trans (g2a o)
      have g3a := fun (o : Obj) => (World.cell?_alloc_past o _ _ (World.block_lt_of_cell? _ _ g3)).trans g3
      have g3b := fun (o o' : Obj) => (World.cell?_alloc_past o' _ _ (World.block_lt_of_cell? _ _ (g3a o))).trans (g3a o)
      have k0a := fun (o : Obj) => (World.cell?_alloc_past o _ _ (World.block_lt_of_cell? _ _ k0)).trans k0
      have k0b := fun (o o' : Obj) => (World.cell?_alloc_past o' _ _ (World.block_lt_of_cell? _ _ (k0a o))).trans (k0a o)
      have k1a := fun (o : Obj) => (World.cell?_alloc_past o _ _ (World.block_lt_of_cell? _ _ k1)).trans k1
      have k1b := fun (o o' : Obj) => (World.cell?_alloc_past o' _ _ (World.block_lt_of_cell? _ _ (k1a o))).trans (k1a o)
      have k2a := fun (o : Obj) => (World.cell?_alloc_past o _ _ (World.block_lt_of_cell? _ _ k2)).trans k2
      have k2b := fun (o o' : Obj) => (World.cell?_alloc_past o' _ _ (World.block_lt_of_cell? _ _ (k2a o))).trans (k2a o)
      have k3a := fun (o : Obj) => (World.cell?_alloc_past o _ _ (World.block_lt_of_cell? _ _ k3)).trans k3
      have k3b := fun (o o' : Obj) => (World.cell?_alloc_past o' _ _ (World.block_lt_of_cell? _ _ (k3a o))).trans (k3a o)
      go_wp2_with fail
      go_region
      all_goals go_wp2_with fail
      · have HPX := Lib.hid (HP.out _ _ rfl rfl)
        clear g0a g0b g1a g1b g2a g2b g3a g3b k0a k0b k1a k1b k2a k2b k3a k3b HP HP2
        clear g0 g1 g2 g3 k0 k1 k2 k3 y1 y2
        go_loopw [8] (fun i wr' => (i = .int .i64 0 ∨ i = .int .i64 1) ∧ Hid (Pair wr.heap.size a1 p1 d1 d3 a2 p2 d2 d4 q3 q4 wr.heap.size wr wr')) (fun i _ => 1 - (intOf i).toNat)
        case atStart => exact ⟨.inl rfl, Lib.hid HPX.out⟩
        case round =>
          clear HPX
          rcases hrel with ⟨rfl | rfl, hP⟩
          · obtain ⟨bel, x1, x3, z1, z3, u1, u2⟩ := hP.out
            have HD := Lib.hid hP.out.drew
            clear bel hP
            go_wp2_with fail
            go_region
            all_goals go_wp2_with fail
            all_goals go_roundw
            all_goals first
              | (simp [intOf]; done)
              | exact ⟨.inr (by go_num), HD⟩
              | exact HD
          · obtain ⟨bel, x1, x3, z1, z3, u1, u2⟩ := hP.out
            have HBL := Lib.hid bel
            clear bel
            go_wp2_with fail
            go_loopw [9] (fun i wr' => i = .int .i64 0 ∧ Hid (Pair _ a1 p1 d1 d3 a2 p2 d2 d4 q3 q4 _ _ wr')) (fun i _ => 0)
            case atStart => exact ⟨rfl, hP⟩
            case round =>
              obtain ⟨rfl, hP2⟩ := hrel
              obtain ⟨bel, x1, x3, z1, z3, u1, u2⟩ := hP2.out
              have HBL2 := Lib.hid bel
              clear bel
              go_wp2_with fail
              go_roundw
              all_goals first
                | (simp [intOf]; done)
                | exact Lib.hid HBL2.out
                | exact .inr ⟨by go_num, HBL2⟩
      · have HPX := Lib.hid (HP2.out _ _ rfl rfl)
        clear g0a g0b g1a g1b g2a g2b g3a g3b k0a k0b k1a k1b k2a k2b k3a k3b HP HP2
        clear g0 g1 g2 g3 k0 k1 k2 k3 y1 y2
        go_loopw [8] (fun i wr' => (i = .int .i64 0 ∨ i = .int .i64 1) ∧ Hid (Pair wr.heap.size a2 p2 d2 d4 a1 p1 d1 d3 q4 q3 wr.heap.size wr wr')) (fun i _ => 1 - (intOf i).toNat)
        case atStart => exact ⟨.inl rfl, Lib.hid HPX.out⟩
        case round =>
          clear HPX
          rcases hrel with ⟨rfl | rfl, hP⟩
          · obtain ⟨bel, x1, x3, z1, z3, u1, u2⟩ := hP.out
            have HD := Lib.hid hP.out.drew
            clear bel hP
            go_wp2_with fail
            go_region
            all_goals go_wp2_with fail
            all_goals go_roundw
            all_goals first
              | (simp [intOf]; done)
              | exact ⟨.inr (by go_num), HD⟩
              | exact HD
          · obtain ⟨bel, x1, x3, z1, z3, u1, u2⟩ := hP.out
            have HBL := Lib.hid bel
            clear bel
            go_wp2_with fail
            go_loopw [9] (fun i wr' => i = .int .i64 0 ∧ Hid (Pair _ a2 p2 d2 d4 a1 p1 d1 d3 q4 q3 _ _ wr')) (fun i _ => 0)
            case atStart => exact ⟨rfl, hP⟩
            case round =>
              obtain ⟨rfl, hP2⟩ := hrel
              obtain ⟨bel, x1, x3, z1, z3, u1, u2⟩ := hP2.out
              have HBL2 := Lib.hid bel
              clear bel
              go_wp2_with fail
              go_roundw
              all_goals first
                | (simp [intOf]; done)
                | exact Lib.hid HBL2.out
                | exact .inr ⟨by go_num, HBL2⟩
    · go_wp2_with fail
      go_ret
      exact ⟨rfl, hF.out⟩
end Go.Proofs.Ytcadeeldogknmaa
/- The chapter's rows: known. -/
namespace Go.Proofs.Ytcadeeldogknmaa
open Go.RowKit

set_option maxRecDepth 100000 in
set_option maxHeartbeats 3200000 in
theorem known_any (w : World) : Calls Try.prog 7 #[] w fun e w' => e = .returned (.bool true) ∧ Below w.heap.size w w' := by
  go_enter Try.func7, Try.ntmps7
  go_wp2_with (first | (go_at_call 15; refine (line_any _ _ _ _).mono ?_; rintro e w' ⟨rfl, rfl⟩))
  refine (flatK w).mono ?_
  rintro e w1 ⟨gs, cs, rfl, hB1, hsn⟩
  have HSN := Lib.hid hsn
  clear hsn
  go_wp2_with (first | (go_at_call 15; refine (line_any _ _ _ _).mono ?_; rintro e w' ⟨rfl, rfl⟩))
  refine (rewA w1).mono ?_
  rintro e w2 ⟨bm, cm, rfl, hB2, hin, hsn⟩
  have HIN := Lib.hid (And.intro hin hsn)
  clear hin hsn
  go_wp2_with (first | (go_at_call 15; refine (line_any _ _ _ _).mono ?_; rintro e w' ⟨rfl, rfl⟩))
  refine (rewB w2).mono ?_
  rintro e w3 ⟨rfl, hB3⟩
  have HS3 := Lib.hid (show SnIn w3 w3.heap.size lfK.flat (some ⟨gs, 0, none⟩) ∧ SnIn w3 w3.heap.size lfK.flat (some ⟨w1.heap.size, 0, none⟩) ∧ lfA.In w3 w3.heap.size (some ⟨bm, 0, none⟩) from
    ⟨HSN.out.later (hB2.trans (hB3.mono hB2.size)) (Nat.le_trans hB2.size hB3.size), HIN.out.2.later hB3 hB3.size, HIN.out.1.later hB3 hB3.size⟩)
  have HB3 := Lib.hid (hB1.trans ((hB2.mono hB1.size).trans (hB3.mono (Nat.le_trans hB1.size hB2.size))))
  clear hB1 hB2 hB3
  go_wp2_with (first | (go_at_call 15; refine (line_any _ _ _ _).mono ?_; rintro e w' ⟨rfl, rfl⟩))
  refine (sameSeen_any lfK.flat lfK.flat (some ⟨gs, 0, none⟩) (some ⟨w1.heap.size, 0, none⟩) _ _ w3.heap.size w3 HS3.out.1 HS3.out.2.1 (Nat.le_refl _)).mono ?_
  rintro e w4 ⟨rfl, hB4⟩
  have hsm : snSame lfK.flat lfK.flat = true := snSame_self _
  go_wp2_with (first | (go_at_call 15; refine (line_any _ _ _ _).mono ?_; rintro e w' ⟨rfl, rfl⟩))
  refine (sameA_any bm _ cm 1 (W4 w4).heap.size (W4 w4) (HS3.out.2.2.later (hB4.trans ((W4_bel w4).mono hB4.size)) (Nat.le_trans hB4.size (W4_bel w4).size)) (W4_l w4) (Nat.le_refl _)).mono ?_
  rintro e w5 ⟨rfl, hB5⟩
  have HB5 := Lib.hid (HB3.out.trans ((hB4.trans (((W4_bel w4).trans (hB5.mono (W4_bel w4).size)).mono hB4.size)).mono HB3.out.size))
  clear hB4 hB5
  go_wp2_with fail
  go_ret
  exact ⟨rfl, HB5.out⟩
end Go.Proofs.Ytcadeeldogknmaa
