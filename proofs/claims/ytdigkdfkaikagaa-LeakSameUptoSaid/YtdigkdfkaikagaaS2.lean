/- Two leakages of one line of one word. -/
import Derived.Test.YtdigkdfkaikagaaC2
namespace Go.Proofs.Ytdigkdfkaikagaa
open Go.RowKit
structure Pair (g a1 p1 d1 d3 a2 p2 d2 d4 : Nat) (q3 q4 : Option Addr) (B : Nat) (w wr : World) : Prop where
  bel : Below B w wr
  x1 : wr.cell? ⟨g, 1, none⟩ = some (.slice (some ⟨a1, p1, none⟩) 1 d1)
  x3 : wr.cell? ⟨g, 3, none⟩ = some (.slice q3 0 d3)
  z1 : wr.cell? ⟨g + 1, 1, none⟩ = some (.slice (some ⟨a2, p2, none⟩) 1 d2)
  z3 : wr.cell? ⟨g + 1, 3, none⟩ = some (.slice q4 0 d4)
  u1 : wr.cell? ⟨a1, p1, none⟩ = some (.int .u64 1116)
  u2 : wr.cell? ⟨a2, p2, none⟩ = some (.int .u64 1116)
theorem Pair.drew {g a1 p1 d1 d3 a2 p2 d2 d4 : Nat} {q3 q4 : Option Addr} {B : Nat} {w wr : World} (h : Pair g a1 p1 d1 d3 a2 p2 d2 d4 q3 q4 B w wr) : Pair g a1 p1 d1 d3 a2 p2 d2 d4 q3 q4 B w wr.drew :=
  ⟨h.bel.drew, h.x1, h.x3, h.z1, h.z3, h.u1, h.u2⟩

set_option maxRecDepth 100000 in
set_option maxHeartbeats 6400000 in
theorem sameA_any (b1 b2 c1 c2 N : Nat) (w : World) (h1 : lfA.In w N (some ⟨b1, 0, none⟩)) (h2 : lfA.In w N (some ⟨b2, 0, none⟩)) (hN : N ≤ w.heap.size) :
    Calls Try.prog 15 #[.slice (some ⟨b1, 0, none⟩) 1 c1, .slice (some ⟨b2, 0, none⟩) 1 c2] w fun e w' => e = .returned (.bool true) ∧ Below w.heap.size w w' := by
  obtain ⟨_, h0 | ⟨b', o', he, hb1, ⟨g0, ⟨q1, d1, g1, ⟨_, hs | ⟨a1, p1, rfl, ha1, ⟨y1, _⟩⟩⟩⟩, g2, ⟨q3, d3, g3, _⟩, _⟩⟩⟩ := h1
  · simp [lfA, Lf.len] at h0
  · simp at hs
  injection he with he
  injection he with e1 e2
  subst e1; subst e2
  obtain ⟨_, h0 | ⟨b', o', he, hb2, ⟨k0, ⟨q2, d2, k1, ⟨_, hs | ⟨a2, p2, rfl, ha2, ⟨y2, _⟩⟩⟩⟩, k2, ⟨q4, d4, k3, _⟩, _⟩⟩⟩ := h2
  · simp [lfA, Lf.len] at h0
  · simp at hs
  injection he with he
  injection he with e1 e2
  subst e1; subst e2
  go_enter Try.func15, Try.ntmps15
  go_wp2_with fail
  have HB0 := Lib.hid (Below.refl w.heap.size w)
  go_loopw [5] (fun i wr => (i = .int .i64 0 ∧ Hid (wr = w)) ∨ (i = .int .i64 1 ∧ Hid (Below w.heap.size w wr))) (fun i _ => 1 - (intOf i).toNat)
  case atStart => exact .inl ⟨rfl, Lib.hid rfl⟩
  case round =>
    rcases hrel with ⟨rfl, hw⟩ | ⟨rfl, hF⟩
    · obtain rfl := hw.out
      clear hw
      have HP := Lib.hid (show ∀ (n3 n4 : Nat), n3 = 0 → n4 = 0 → Pair wr.heap.size a1 p1 d1 d3 a2 p2 d2 d4 q3 q4 wr.heap.size wr (((wr.alloc (Obj.cells #[.int .i64 1, .slice (some ⟨a1, p1, none⟩) 1 d1, .bool false, .slice q3 n3 d3] 44)).alloc (Obj.cells #[.int .i64 1, .slice (some ⟨a2, p2, none⟩) 1 d2, .bool false, .slice q4 n4 d4] 44)).drew) from fun n3 n4 h3 h4 => by
        subst h3; subst h4
        have hb := (((Below.refl _ wr).alloc (Nat.le_refl _) (Obj.cells #[.int .i64 1, .slice (some ⟨a1, p1, none⟩) 1 d1, .bool false, .slice q3 0 d3] 44)).alloc (by simp) (Obj.cells #[.int .i64 1, .slice (some ⟨a2, p2, none⟩) 1 d2, .bool false, .slice q4 0 d4] 44)).drew
        exact ⟨hb, by simp [go_sem], by simp [go_sem], by simp [go_sem], by simp [go_sem], (hb.cell (World.block_lt_of_cell? _ _ y1)).trans y1, (hb.cell (World.block_lt_of_cell? _ _ y2)).trans y2⟩)
      have HP2 := Lib.hid (show ∀ (n4 n3 : Nat), n4 = 0 → n3 = 0 → Pair wr.heap.size a2 p2 d2 d4 a1 p1 d1 d3 q4 q3 wr.heap.size wr (((wr.alloc (Obj.cells #[.int .i64 1, .slice (some ⟨a2, p2, none⟩) 1 d2, .bool false, .slice q4 n4 d4] 44)).alloc (Obj.cells #[.int .i64 1, .slice (some ⟨a1, p1, none⟩) 1 d1, .bool false, .slice q3 n3 d3] 44)).drew) from fun n4 n3 h4 h3 => by
        subst h4; subst h3
        have hb := (((Below.refl _ wr).alloc (Nat.le_refl _) (Obj.cells #[.int .i64 1, .slice (some ⟨a2, p2, none⟩) 1 d2, .bool false, .slice q4 0 d4] 44)).alloc (by simp) (Obj.cells #[.int .i64 1, .slice (some ⟨a1, p1, none⟩) 1 d1, .bool false, .slice q3 0 d3] 44)).drew
        exact ⟨hb, by simp [go_sem], by simp [go_sem], by simp [go_sem], by simp [go_sem], (hb.cell (World.block_lt_of_cell? _ _ y2)).trans y2, (hb.cell (World.block_lt_of_cell? _ _ y1)).trans y1⟩)
      have g0a := fun (o : Obj) => (World.cell?_alloc_past o _ _ (World.block_lt_of_cell? _ _ g0)).trans g0
      have g0b := fun (o o' : Obj) => (World.cell?_alloc_past o' _ _ (World.block_lt_of_cell? _ _ (g0a o))).trans (g0a o)
      have g1a := fun (o : Obj) => (World.cell?_alloc_past o _ _ (World.block_lt_of_cell? _ _ g1)).trans g1
      have g1b := fun (o o' : Obj) => (World.cell?_alloc_past o' _ _ (World.block_lt_of_cell? _ _ (g1a o))).trans (g1a o)
      have g2a := fun (o : Obj) => (World.cell?_alloc_past o _ _ (World.block_lt_of_cell? _ _ g2)).trans g2
      have g2b := fun (o o' : Obj) => (World.cell?_alloc_past o' _ _ (World.block_lt_of_cell? _ _ (g2a o))).trans (g2a o)
      have g3a := fun (o : Obj) => (World.cell?_alloc_past o _ _ (World.block_lt_of_cell? _ _ g3)).trans g3
      have g3b := fun (o o' : Obj) => (World.cell?_alloc_past o' _ _ (World.block_lt_of_cell? _ _ (g3a o))).trans (g3a o)
      have k0a := fun (o : Obj) => (World.cell?_alloc_past o _ _ (World.block_lt_of_cell? _ _ k0)).trans k0
      have k0b := fun (o o' : Obj) => (World.cell?_alloc_past o' _ _ (World.block_lt_of_cell? _ _ (k0a o))).trans (k0a o)
      have k1a := fun (o : Obj) => (World.cell?_alloc_past o _ _ (World.block_lt_of_cell? _ _ k1)).trans k1
      have k1b := fun (o o' : Obj) => (World.cell?_alloc_past o' _ _ (World.block_lt_of_cell? _ _ (k1a o))).trans (k1a o)
      have k2a := fun (o : Obj) => (World.cell?_alloc_past o _ _ (World.block_lt_of_cell? _ _ k2)).trans k2
      have k2b := fun (o o' : Obj) => (World.cell?_alloc_past o' _ _ (World.block_lt_of_cell? _ _ (k2a o))).trans (k2a o)
      have k3a := fun (o : Obj) => (World.cell?_alloc_past o _ _ (World.block_lt_of_cell? _ _ k3)).trans k3
      have k3b := fun (o o' : Obj) => (World.cell?_alloc_past o' _ _ (World.block_lt_of_cell? _ _ (k3a o))).trans (k3a o)
      go_wp2_with fail
      go_region
      all_goals go_wp2_with fail
      · have HPX := Lib.hid (HP.out _ _ rfl rfl)
        clear g0a g0b g1a g1b g2a g2b g3a g3b k0a k0b k1a k1b k2a k2b k3a k3b HP HP2
        clear g0 g1 g2 g3 k0 k1 k2 k3 y1 y2
        go_loopw [8] (fun i wr' => (i = .int .i64 0 ∨ i = .int .i64 1) ∧ Hid (Pair wr.heap.size a1 p1 d1 d3 a2 p2 d2 d4 q3 q4 wr.heap.size wr wr')) (fun i _ => 1 - (intOf i).toNat)
        case atStart => exact ⟨.inl rfl, Lib.hid HPX.out⟩
        case round =>
          clear HPX
          rcases hrel with ⟨rfl | rfl, hP⟩
          · obtain ⟨bel, x1, x3, z1, z3, u1, u2⟩ := hP.out
            have HD := Lib.hid hP.out.drew
            clear bel hP
            go_wp2_with fail
            go_region
            all_goals go_wp2_with fail
            all_goals go_roundw
            all_goals first
              | (simp [intOf]; done)
              | exact ⟨.inr (by go_num), HD⟩
              | exact HD
          · obtain ⟨bel, x1, x3, z1, z3, u1, u2⟩ := hP.out
            have HBL := Lib.hid bel
            clear bel
            go_wp2_with fail
            go_loopw [9] (fun i wr' => i = .int .i64 0 ∧ Hid (Pair _ a1 p1 d1 d3 a2 p2 d2 d4 q3 q4 _ _ wr')) (fun i _ => 0)
            case atStart => exact ⟨rfl, hP⟩
            case round =>
              obtain ⟨rfl, hP2⟩ := hrel
              obtain ⟨bel, x1, x3, z1, z3, u1, u2⟩ := hP2.out
              have HBL2 := Lib.hid bel
              clear bel
              go_wp2_with fail
              go_roundw
              all_goals first
                | (simp [intOf]; done)
                | exact Lib.hid HBL2.out
                | exact .inr ⟨by go_num, HBL2⟩
      · have HPX := Lib.hid (HP2.out _ _ rfl rfl)
        clear g0a g0b g1a g1b g2a g2b g3a g3b k0a k0b k1a k1b k2a k2b k3a k3b HP HP2
        clear g0 g1 g2 g3 k0 k1 k2 k3 y1 y2
        go_loopw [8] (fun i wr' => (i = .int .i64 0 ∨ i = .int .i64 1) ∧ Hid (Pair wr.heap.size a2 p2 d2 d4 a1 p1 d1 d3 q4 q3 wr.heap.size wr wr')) (fun i _ => 1 - (intOf i).toNat)
        case atStart => exact ⟨.inl rfl, Lib.hid HPX.out⟩
        case round =>
          clear HPX
          rcases hrel with ⟨rfl | rfl, hP⟩
          · obtain ⟨bel, x1, x3, z1, z3, u1, u2⟩ := hP.out
            have HD := Lib.hid hP.out.drew
            clear bel hP
            go_wp2_with fail
            go_region
            all_goals go_wp2_with fail
            all_goals go_roundw
            all_goals first
              | (simp [intOf]; done)
              | exact ⟨.inr (by go_num), HD⟩
              | exact HD
          · obtain ⟨bel, x1, x3, z1, z3, u1, u2⟩ := hP.out
            have HBL := Lib.hid bel
            clear bel
            go_wp2_with fail
            go_loopw [9] (fun i wr' => i = .int .i64 0 ∧ Hid (Pair _ a2 p2 d2 d4 a1 p1 d1 d3 q4 q3 _ _ wr')) (fun i _ => 0)
            case atStart => exact ⟨rfl, hP⟩
            case round =>
              obtain ⟨rfl, hP2⟩ := hrel
              obtain ⟨bel, x1, x3, z1, z3, u1, u2⟩ := hP2.out
              have HBL2 := Lib.hid bel
              clear bel
              go_wp2_with fail
              go_roundw
              all_goals first
                | (simp [intOf]; done)
                | exact Lib.hid HBL2.out
                | exact .inr ⟨by go_num, HBL2⟩
    · go_wp2_with fail
      go_ret
      exact ⟨rfl, hF.out⟩
end Go.Proofs.Ytdigkdfkaikagaa
