/- The chapter's rows. -/
import Derived.Test.YtdigkdfkaikagaaRD
import Derived.Test.YtdigkdfkaikagaaRE
import Derived.Test.YtdigkdfkaikagaaS1
namespace Go.Proofs.Ytdigkdfkaikagaa
open Go.RowKit
set_option maxHeartbeats 1600000 in
theorem line_any (a : Option Addr) (n c : Nat) (w : World) :
    Calls Try.prog 19 #[.slice a n c] w fun e w' => e = .returned (.agg #[.int .i64 1, .slice a n c, .bool false, .slice none 0 0]) ∧ w.alloc (Obj.cells #[.int .i64 1, .slice a n c, .bool false, .slice none 0 0] 44) = w' := by
  go_enter Try.func19, Try.ntmps19
  go_wp2_with fail
  exact bodyPost_ret (by simp [results, Try.results19, go_sem]) rfl ⟨rfl, rfl⟩

def lfK : Lf := .node 1 [8, 16] false .nil (.node 2 [24] true (.sub (.node 1 [32] false .nil .nil) .nil) .nil)
def W1 (w : World) : World := ((((((((w.alloc (Obj.cells #[.int .u64 8, .int .u64 16] 26)).alloc (Obj.cells #[.int .i64 1, .slice (some ⟨w.heap.size, 0, none⟩) 2 2, .bool false, .slice none 0 0] 44)).alloc (Obj.cells #[.int .u64 24] 26)).alloc (Obj.cells #[.int .u64 32] 26)).alloc (Obj.cells #[.int .i64 1, .slice (some ⟨w.heap.size + 1 + 1 + 1, 0, none⟩) 1 1, .bool false, .slice none 0 0] 44)).alloc (Obj.cells #[.int .i64 1, .slice (some ⟨w.heap.size + 1 + 1 + 1, 0, none⟩) 1 1, .bool false, .slice none 0 0] 44)).alloc (Obj.cells #[.slice (some ⟨w.heap.size + 1 + 1 + 1 + 1 + 1, 0, none⟩) 1 1] 25)).alloc (Obj.cells #[.int .i64 1, .slice (some ⟨w.heap.size, 0, none⟩) 2 2, .bool false, .slice none 0 0, .int .i64 2, .slice (some ⟨w.heap.size + 1 + 1, 0, none⟩) 1 1, .bool true, .slice (some ⟨w.heap.size + 1 + 1 + 1 + 1 + 1 + 1, 0, none⟩) 1 1] 44))
theorem W1_size (w : World) : (W1 w).heap.size = w.heap.size + 8 := by simp [W1]
theorem W1_in (w : World) : lfK.In (W1 w) (W1 w).heap.size (some ⟨w.heap.size + 1 + 1 + 1 + 1 + 1 + 1 + 1, 0, none⟩) := by
  have hs := W1_size w
  have c : ∀ b o v, (W1 w).cell? ⟨b, o, none⟩ = v → (W1 w).cell? ⟨b, o, none⟩ = v := fun _ _ _ h => h
  refine ⟨by decide, .inr ⟨_, _, rfl, by omega, by simp [W1, go_sem], ⟨some ⟨w.heap.size, 0, none⟩, 2, by simp [W1, go_sem], by decide, .inr ⟨_, _, rfl, by omega, by simp [W1, go_sem], by simp [W1, go_sem], trivial⟩⟩, by simp [W1, go_sem], ⟨none, 0, by simp [W1, go_sem, Ls.len], by decide, .inl rfl⟩,
    by simp [W1, go_sem], ⟨some ⟨w.heap.size + 1 + 1, 0, none⟩, 1, by simp [W1, go_sem], by decide, .inr ⟨_, _, rfl, by omega, by simp [W1, go_sem], trivial⟩⟩, by simp [W1, go_sem],
    ⟨some ⟨w.heap.size + 1 + 1 + 1 + 1 + 1 + 1, 0, none⟩, 1, by simp [W1, go_sem, Ls.len], by decide, .inr ⟨_, _, rfl, by omega, ⟨some ⟨w.heap.size + 1 + 1 + 1 + 1 + 1, 0, none⟩, 1, by simp [W1, go_sem, Lf.len], by decide, .inr ⟨_, _, rfl, by omega, by simp [W1, go_sem], ⟨some ⟨w.heap.size + 1 + 1 + 1, 0, none⟩, 1, by simp [W1, go_sem], by decide, .inr ⟨_, _, rfl, by omega, by simp [W1, go_sem], trivial⟩⟩, by simp [W1, go_sem], ⟨none, 0, by simp [W1, go_sem, Ls.len], by decide, .inl rfl⟩, trivial⟩⟩, trivial⟩⟩, trivial⟩⟩
theorem W1_bel (w : World) : Below w.heap.size w (W1 w) := by
  unfold W1
  exact (((((((((Below.refl _ w).alloc (Nat.le_refl _) _).alloc (by simp) _).alloc (by simp; omega) _).alloc (by simp; omega) _).alloc (by simp; omega) _).alloc (by simp; omega) _).alloc (by simp; omega) _).alloc (by simp; omega) _)
theorem flatK (w : World) : Calls Try.prog 22 #[.slice (some ⟨w.heap.size + 1 + 1 + 1 + 1 + 1 + 1 + 1, 0, none⟩) 2 2] (W1 w) fun e w1 => ∃ g c, e = .returned (.tuple #[.slice (some ⟨g, 0, none⟩) 5 c, .int .i64 0]) ∧ Below w.heap.size w w1 ∧ SnIn w1 w1.heap.size lfK.flat (some ⟨g, 0, none⟩) :=
  (Flat_ok lfK _ 2 _ (W1 w) (W1_in w) (Nat.le_refl _) (by decide)).mono fun e w1 ⟨v, he, hb, hown⟩ => by
    obtain ⟨g, c, rfl⟩ := own_form hown (by decide)
    refine ⟨g, c, he, (W1_bel w).trans (hb.mono (W1_bel w).size), by decide, .inr ⟨g, 0, rfl, (hown.lt g rfl).2, ?_⟩⟩
    have hc := hown.cellAt
    refine ⟨fun j u hj => ?_, fun j u hj => ?_, fun j u hj => ?_, fun j u hj => ?_, fun j u hj => ?_, trivial⟩
    all_goals (match j, hj with
      | 0, hj => rw [hc _ (by decide), ← hj]; rfl
      | 1, hj => rw [hc _ (by decide), ← hj]; rfl
      | 2, hj => rw [hc _ (by decide), ← hj]; rfl)
def W2 (u : World) : World := (((((((u.alloc (Obj.cells #[.bool false, .bool false, .int .u64 8, .bool false, .bool false, .int .u64 16, .bool false, .bool false, .int .u64 24, .bool true, .bool false, .int .u64 0, .bool false, .bool false, .int .u64 32] 48)).alloc (Obj.cells #[.int .i64 3, .int .i64 0, .int .u64 100, .bool true] 57)).alloc (Obj.cells #[.slice (some ⟨u.heap.size + 1, 0, none⟩) 1 1] 58)).alloc (Obj.cells #[.int .i64 2, .slice (some ⟨u.heap.size + 1 + 1, 0, none⟩) 1 1, .bool false, .slice none 0 0] 37)).alloc (Obj.cells #[.int .u64 2] 26)).alloc (Obj.cells #[.int .i64 1, .slice (some ⟨u.heap.size + 1 + 1 + 1 + 1, 0, none⟩) 1 1, .bool false, .slice none 0 0] 44)).alloc (Obj.cells #[.int .i64 1, .slice (some ⟨u.heap.size + 1 + 1 + 1 + 1, 0, none⟩) 1 1, .bool false, .slice none 0 0] 44))
theorem W2_size (w : World) : (W2 w).heap.size = w.heap.size + 7 := by simp [W2]
theorem W2_bel (u : World) : Below u.heap.size u (W2 u) := by
  unfold W2
  exact ((((((((Below.refl _ u).alloc (Nat.le_refl _) _).alloc (by simp) _).alloc (by simp; omega) _).alloc (by simp; omega) _).alloc (by simp; omega) _).alloc (by simp; omega) _).alloc (by simp; omega) _)
theorem W2_t (u : World) : tfA.In (W2 u) (W2 u).heap.size (some ⟨u.heap.size + 1 + 1 + 1, 0, none⟩) := by
  have hs := W2_size u
  exact ⟨by decide, .inr ⟨_, _, rfl, by omega, by simp [W2, go_sem], ⟨some ⟨u.heap.size + 1 + 1, 0, none⟩, 1, by simp [W2, go_sem], by decide, .inr ⟨_, _, rfl, by omega, ⟨some ⟨u.heap.size + 1, 0, none⟩, 1, by simp [W2, go_sem], by decide, .inr ⟨_, _, rfl, by omega, ⟨by simp [W2, go_sem, pkA], by simp [W2, go_sem, pkA], by simp [W2, go_sem, pkA], by simp [W2, go_sem, pkA]⟩, trivial⟩⟩, trivial⟩⟩, by simp [W2, go_sem], ⟨none, 0, by simp [W2, go_sem, Ts.len], by decide, .inl rfl⟩, trivial⟩⟩
theorem W2_l (u : World) : liA.In (W2 u) (W2 u).heap.size (some ⟨u.heap.size + 1 + 1 + 1 + 1 + 1 + 1, 0, none⟩) := by
  have hs := W2_size u
  exact ⟨by decide, .inr ⟨_, _, rfl, by omega, by simp [W2, go_sem], ⟨some ⟨u.heap.size + 1 + 1 + 1 + 1, 0, none⟩, 1, by simp [W2, go_sem], by decide, .inr ⟨_, _, rfl, by omega, by simp [W2, go_sem], trivial⟩⟩, by simp [W2, go_sem], ⟨none, 0, by simp [W2, go_sem, Ls.len], by decide, .inl rfl⟩, trivial⟩⟩
theorem W2_want (u : World) : SnIn (W2 u) (W2 u).heap.size lfK.flat (some ⟨u.heap.size, 0, none⟩) := by
  have hs := W2_size u
  refine ⟨by decide, .inr ⟨_, _, rfl, by omega, fun j v hj => ?_, fun j v hj => ?_, fun j v hj => ?_, fun j v hj => ?_, fun j v hj => ?_, trivial⟩⟩
  all_goals (match j, hj with
    | 0, hj => simp [Sn.cells] at hj; subst hj; simp [W2, go_sem]
    | 1, hj => simp [Sn.cells] at hj; subst hj; simp [W2, go_sem]
    | 2, hj => simp [Sn.cells] at hj; subst hj; simp [W2, go_sem])
theorem rewA (u : World) : Calls Try.prog 14 #[.slice (some ⟨u.heap.size + 1 + 1 + 1, 0, none⟩) 1 1, .slice (some ⟨u.heap.size + 1 + 1 + 1 + 1 + 1 + 1, 0, none⟩) 1 1, .int .u64 1000, .bool false] (W2 u) fun e w2 => ∃ b2 cc, e = .returned (.tuple #[.slice (some ⟨b2, 0, none⟩) 1 cc, .int .i64 0]) ∧ Below u.heap.size u w2 ∧
    lfA.In w2 w2.heap.size (some ⟨b2, 0, none⟩) ∧ SnIn w2 w2.heap.size lfK.flat (some ⟨u.heap.size, 0, none⟩) :=
  (Rewrite_A (W2 u).heap.size 1 1 _ _ (W2 u) (W2_t u) (W2_l u) (Nat.le_refl _)).mono fun _e _w2 ⟨⟨b2, cc, he, hin⟩, hb⟩ => ⟨b2, cc, he, (W2_bel u).trans (hb.mono (W2_bel u).size), hin, (W2_want u).later hb hb.size⟩
def W3 (u : World) : World := ((((u.alloc (Obj.cells #[.slice none 0 0] 22)).alloc (Obj.cells #[.int .i64 4, .slice none 0 0, .bool true, .slice (some ⟨u.heap.size, 0, none⟩) 1 1] 37)).alloc (Obj.cells #[.slice none 0 0] 25)).alloc (Obj.cells #[.int .i64 2, .slice none 0 0, .bool false, .slice (some ⟨u.heap.size + 1 + 1, 0, none⟩) 1 1] 44))
theorem W3_size (w : World) : (W3 w).heap.size = w.heap.size + 4 := by simp [W3]
theorem W3_bel (u : World) : Below u.heap.size u (W3 u) := by
  unfold W3
  exact (((((Below.refl _ u).alloc (Nat.le_refl _) _).alloc (by simp) _).alloc (by simp; omega) _).alloc (by simp; omega) _)
theorem W3_t (u : World) : tfB.In (W3 u) (W3 u).heap.size (some ⟨u.heap.size + 1, 0, none⟩) := by
  have hs := W3_size u
  exact ⟨by decide, .inr ⟨_, _, rfl, by omega, by simp [W3, go_sem], ⟨none, 0, by simp [W3, go_sem], by decide, .inl rfl⟩, by simp [W3, go_sem], ⟨some ⟨u.heap.size, 0, none⟩, 1, by simp [W3, go_sem, Ts.len], by decide, .inr ⟨_, _, rfl, by omega, ⟨none, 0, by simp [W3, go_sem, Tf.len], by decide, .inl rfl⟩, trivial⟩⟩, trivial⟩⟩
theorem W3_l (u : World) : liB.In (W3 u) (W3 u).heap.size (some ⟨u.heap.size + 1 + 1 + 1, 0, none⟩) := by
  have hs := W3_size u
  exact ⟨by decide, .inr ⟨_, _, rfl, by omega, by simp [W3, go_sem], ⟨none, 0, by simp [W3, go_sem], by decide, .inl rfl⟩, by simp [W3, go_sem], ⟨some ⟨u.heap.size + 1 + 1, 0, none⟩, 1, by simp [W3, go_sem, Ls.len], by decide, .inr ⟨_, _, rfl, by omega, ⟨none, 0, by simp [W3, go_sem, Lf.len], by decide, .inl rfl⟩, trivial⟩⟩, trivial⟩⟩
theorem rewB (u : World) : Calls Try.prog 14 #[.slice (some ⟨u.heap.size + 1, 0, none⟩) 1 1, .slice (some ⟨u.heap.size + 1 + 1 + 1, 0, none⟩) 1 1, .int .u64 0, .bool false] (W3 u) fun e w2 => e = .returned (.tuple #[.slice none 0 0, .int .i64 2]) ∧ Below u.heap.size u w2 :=
  (Rewrite_B (W3 u).heap.size 1 1 _ _ (W3 u) (W3_t u) (W3_l u) (Nat.le_refl _)).mono fun _e _w2 ⟨he, hb⟩ => ⟨he, (W3_bel u).trans (hb.mono (W3_bel u).size)⟩
def W4 (u : World) : World := (((u.alloc (Obj.cells #[.int .u64 1116] 26)).alloc (Obj.cells #[.int .i64 1, .slice (some ⟨u.heap.size, 0, none⟩) 1 1, .bool false, .slice none 0 0] 44)).alloc (Obj.cells #[.int .i64 1, .slice (some ⟨u.heap.size, 0, none⟩) 1 1, .bool false, .slice none 0 0] 44))
theorem W4_size (w : World) : (W4 w).heap.size = w.heap.size + 3 := by simp [W4]
theorem W4_bel (u : World) : Below u.heap.size u (W4 u) := by
  unfold W4
  exact ((((Below.refl _ u).alloc (Nat.le_refl _) _).alloc (by simp) _).alloc (by simp; omega) _)
theorem W4_l (u : World) : lfA.In (W4 u) (W4 u).heap.size (some ⟨u.heap.size + 1 + 1, 0, none⟩) := by
  have hs := W4_size u
  exact ⟨by decide, .inr ⟨_, _, rfl, by omega, by simp [W4, go_sem], ⟨some ⟨u.heap.size, 0, none⟩, 1, by simp [W4, go_sem], by decide, .inr ⟨_, _, rfl, by omega, by simp [W4, go_sem], trivial⟩⟩, by simp [W4, go_sem], ⟨none, 0, by simp [W4, go_sem, Ls.len], by decide, .inl rfl⟩, trivial⟩⟩
end Go.Proofs.Ytdigkdfkaikagaa
