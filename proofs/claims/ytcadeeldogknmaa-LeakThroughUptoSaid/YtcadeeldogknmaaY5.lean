/- Through of two lists of terms, and of none; terms that leave all as it is, as they are made. -/
import Derived.Test.YtcadeeldogknmaaY4
import Derived.Test.YtcadeeldogknmaaF4
namespace Go.Proofs.Ytcadeeldogknmaa
open Go.RowKit

def thrP (r1 r2 : Int × Lf) : Int × Lf := if r1.1 = 0 then r2 else r1

set_option maxRecDepth 100000 in
set_option maxHeartbeats 3200000 in
theorem through_a (pa pb pl : Option Addr) (la lb L ca cb cl : Nat) (st : Int) (br : Bool) (g : Nat) (w : World) (E : Int) (h3 : ¬ E = 0)
    (hg0 : w.cell? ⟨g, 0, none⟩ = some (.slice pa la ca)) (hg1 : w.cell? ⟨g, 1, none⟩ = some (.slice pb lb cb)) (HR1 : ∀ w1, Below w.heap.size w w1 → Calls Try.prog 9 #[.slice pa la ca, .slice pl L cl, .int .u64 st, .bool br] w1 (RwOut (E, .nil) w1)) :
    Calls Try.prog 8 #[.slice (some ⟨g, 0, none⟩) 2 2, .slice pl L cl, .int .u64 st, .bool br] w (RwOut (E, .nil) w) := by
  have H1 := Lib.hid HR1
  have hl1 := World.block_lt_of_cell? _ _ hg1
  clear HR1
  go_enter Try.func8, Try.ntmps8
  go_wp2_with fail
  have hc' : (E != 0) = true := by simp [bne, h3]
  clear h3
  go_loopw [10, 22] (fun q i wr => q = .slice pl L cl ∧ i = .int .i64 0 ∧ wr = w) (fun _ _ _ => 0)
  case atStart => exact ⟨rfl, rfl, rfl⟩
  case round =>
    obtain ⟨rfl, rfl, rfl⟩ := hrel
    go_wp2_with fail
    refine (H1.out _ (Below.refl _ _)).mono ?_
    intro e w3 h
    obtain ⟨qx, cx, rfl, hB⟩ := h.nil
    clear h
    go_wp2_with fail
    go_ret2
    exact RwOut.bad hB
set_option maxRecDepth 100000 in
set_option maxHeartbeats 3200000 in
theorem through_b (pa pb pl : Option Addr) (la lb L ca cb cl : Nat) (st : Int) (br : Bool) (g : Nat) (w : World) (y : Lf) (E : Int) (h3 : ¬ E = 0)
    (hg0 : w.cell? ⟨g, 0, none⟩ = some (.slice pa la ca)) (hg1 : w.cell? ⟨g, 1, none⟩ = some (.slice pb lb cb)) (HR1 : ∀ w1, Below w.heap.size w w1 → Calls Try.prog 9 #[.slice pa la ca, .slice pl L cl, .int .u64 st, .bool br] w1 (RwOut (0, y) w1))
    (HR2 : ∀ w1 q c, Below w.heap.size w w1 → y.In w1 w1.heap.size q → Calls Try.prog 9 #[.slice pb lb cb, .slice q y.len c, .int .u64 st, .bool br] w1 (RwOut (E, .nil) w1)) :
    Calls Try.prog 8 #[.slice (some ⟨g, 0, none⟩) 2 2, .slice pl L cl, .int .u64 st, .bool br] w (RwOut (E, .nil) w) := by
  have H1 := Lib.hid HR1
  have H2 := Lib.hid HR2
  have hl1 := World.block_lt_of_cell? _ _ hg1
  clear HR1 HR2
  go_enter Try.func8, Try.ntmps8
  go_wp2_with fail
  have hc' : (E != 0) = true := by simp [bne, h3]
  clear h3
  go_loopw [10, 22] (fun q i wr => ∃ (k : Nat), i = .int .i64 k ∧ ((k = 0 ∧ q = .slice pl L cl ∧ wr = w) ∨ (k = 1 ∧ ∃ p c, q = .slice p y.len c ∧ Hid (y.In wr wr.heap.size p ∧ Below w.heap.size w wr)))) (fun _ i _ => 2 - (intOf i).toNat)
  case atStart => exact ⟨0, rfl, .inl ⟨rfl, rfl, rfl⟩⟩
  case round =>
    obtain ⟨k, rfl, ⟨rfl, rfl, rfl⟩ | ⟨rfl, p, c, rfl, HI⟩⟩ := hrel
    · go_wp2_with fail
      refine (H1.out _ (Below.refl _ _)).mono ?_
      intro e w3 h
      obtain ⟨qx, cx, rfl, hin, hcx, hB⟩ := h.one
      have HI := Lib.hid (And.intro hin hB)
      clear h hin hB
      go_wp2_with fail
      go_roundw
      case rel => exact ⟨1, by go_num, .inr ⟨rfl, qx, cx, rfl, HI⟩⟩
      case measure => simp [intOf]
    · have hg1' := (HI.out.2.cell (p := ⟨g, 1, none⟩) hl1).trans hg1
      go_wp2_with fail
      refine (H2.out _ _ _ HI.out.2 HI.out.1).mono ?_
      intro e w3 h
      obtain ⟨qx, cx, rfl, hB⟩ := h.nil
      have HB := Lib.hid (HI.out.2.trans (hB.mono HI.out.2.size))
      clear h hB
      go_wp2_with fail
      go_ret2
      exact RwOut.bad HB.out
set_option maxRecDepth 100000 in
set_option maxHeartbeats 3200000 in
theorem through_c (pa pb pl : Option Addr) (la lb L ca cb cl : Nat) (st : Int) (br : Bool) (g : Nat) (w : World) (y z : Lf)
    (hg0 : w.cell? ⟨g, 0, none⟩ = some (.slice pa la ca)) (hg1 : w.cell? ⟨g, 1, none⟩ = some (.slice pb lb cb)) (HR1 : ∀ w1, Below w.heap.size w w1 → Calls Try.prog 9 #[.slice pa la ca, .slice pl L cl, .int .u64 st, .bool br] w1 (RwOut (0, y) w1))
    (HR2 : ∀ w1 q c, Below w.heap.size w w1 → y.In w1 w1.heap.size q → Calls Try.prog 9 #[.slice pb lb cb, .slice q y.len c, .int .u64 st, .bool br] w1 (RwOut (0, z) w1)) :
    Calls Try.prog 8 #[.slice (some ⟨g, 0, none⟩) 2 2, .slice pl L cl, .int .u64 st, .bool br] w (RwOut (0, z) w) := by
  have H1 := Lib.hid HR1
  have H2 := Lib.hid HR2
  have hl1 := World.block_lt_of_cell? _ _ hg1
  clear HR1 HR2
  go_enter Try.func8, Try.ntmps8
  go_wp2_with fail
  go_loopw [10, 22] (fun q i wr => ∃ (k : Nat), i = .int .i64 k ∧ ((k = 0 ∧ q = .slice pl L cl ∧ wr = w) ∨ (k = 1 ∧ ∃ p c, q = .slice p y.len c ∧ Hid (y.In wr wr.heap.size p ∧ Below w.heap.size w wr)) ∨ (k = 2 ∧ ∃ p c, q = .slice p z.len c ∧ Hid (z.In wr wr.heap.size p ∧ z.len ≤ c ∧ Below w.heap.size w wr)))) (fun _ i _ => 2 - (intOf i).toNat)
  case atStart => exact ⟨0, rfl, .inl ⟨rfl, rfl, rfl⟩⟩
  case round =>
    obtain ⟨k, rfl, ⟨rfl, rfl, rfl⟩ | ⟨rfl, p, c, rfl, HI⟩ | ⟨rfl, p, c, rfl, HI⟩⟩ := hrel
    · go_wp2_with fail
      refine (H1.out _ (Below.refl _ _)).mono ?_
      intro e w3 h
      obtain ⟨qx, cx, rfl, hin, hcx, hB⟩ := h.one
      have HI := Lib.hid (And.intro hin hB)
      clear h hin hB
      go_wp2_with fail
      go_roundw
      case rel => exact ⟨1, by go_num, .inr (.inl ⟨rfl, qx, cx, rfl, HI⟩)⟩
      case measure => simp [intOf]
    · have hg1' := (HI.out.2.cell (p := ⟨g, 1, none⟩) hl1).trans hg1
      go_wp2_with fail
      refine (H2.out _ _ _ HI.out.2 HI.out.1).mono ?_
      intro e w3 h
      obtain ⟨qx, cx, rfl, hin, hcx, hB⟩ := h.one
      have HI2 := Lib.hid (And.intro hin (And.intro hcx (HI.out.2.trans (hB.mono HI.out.2.size))))
      clear h hin hB hcx
      go_wp2_with fail
      go_roundw
      case rel => exact ⟨2, by go_num, .inr (.inr ⟨rfl, qx, cx, rfl, HI2⟩)⟩
      case measure => simp [intOf]
    · go_wp2_with fail
      go_ret2
      exact ⟨p, c, rfl, HI.out.1, HI.out.2.1, HI.out.2.2⟩
set_option maxRecDepth 100000 in
set_option maxHeartbeats 3200000 in
theorem through_none (l : Lf) (pl : Option Addr) (cl : Nat) (st : Int) (br : Bool) (w : World) (hl : l.In w w.heap.size pl) (hw : l.wt ≤ 1073741824) :
    Calls Try.prog 8 #[.slice none 0 0, .slice pl l.len cl, .int .u64 st, .bool br] w fun e w' => ∃ q c, e = .returned (.tuple #[.slice q l.len c, .int .i64 0]) ∧ l.In w' w'.heap.size q ∧ Below w.heap.size w w' := by
  have HC := Lib.hid (cpl_to (l.wt + 1) l (Nat.lt_succ_self _) hw pl cl _ w hl (Nat.le_refl _))
  clear hl hw
  go_enter Try.func8, Try.ntmps8
  go_wp2_with fail
  refine HC.out.mono ?_
  rintro e w1 ⟨q, d, rfl, hB, hN⟩
  have HI := Lib.hid (And.intro hN hB)
  clear hB hN
  go_wp2_with fail
  go_ret2
  obtain ⟨T, h1, h2⟩ := HI.out.1
  exact ⟨q, d, rfl, h1.le (Le.cut T _) (Nat.le_refl _), HI.out.2⟩

/-- as many terms that leave a node as it is -/
def samesT : Nat → Tf
  | 0 => .nil
  | n + 1 => .node 1 [] false .nil (samesT n)
theorem samesT_len : ∀ n, (samesT n).len = n
  | 0 => rfl
  | n + 1 => by rw [samesT, Tf.len, samesT_len n]
theorem samesT_rc : ∀ l : Lf, (samesT l.len).rc = sames l
  | .nil => rfl
  | .node k is t s r => by
    rw [Lf.len, samesT, Tf.rc, samesT_rc r, sames]
    rfl
theorem samesT_ok : ∀ n, (samesT n).okT = true
  | 0 => rfl
  | n + 1 => by rw [samesT, Tf.okT, samesT_ok n]; rfl
theorem samesT_nums : ∀ n, (samesT n).weight = n ∧ (samesT n).size = n ∧ (samesT n).deep ≤ 1 ∧ (samesT n).len + (samesT n).under = n
  | 0 => ⟨rfl, rfl, Nat.zero_le _, rfl⟩
  | n + 1 => by
    obtain ⟨h1, h2, h3, h4⟩ := samesT_nums n
    rw [samesT_len] at h4
    simp only [samesT, Tf.weight, Tf.size, Tf.deep, Tf.under, Tf.len, Ts.weight, Ts.size, Ts.deep, Ts.nodes, linesW, samesT_len]
    omega
theorem samesT_cap (v : World) : ∀ (n b o : Nat), (samesT n).Cap v b o
  | 0, _, _ => trivial
  | n + 1, b, o => ⟨fun _p _c _ => ⟨Nat.zero_le _, fun _ _ _ => trivial⟩, samesT_cap v n b (o + 4)⟩
mutual
theorem Lf.cnt_small : ∀ (l : Lf) (d : Nat) (n : Int), n + l.weight ≤ 1000000 → ∃ x, l.cnt d n = .ok x ∧ x ≤ n + l.weight
  | .nil, _, n, _ => ⟨n, rfl, by simp [Lf.weight]⟩
  | .node _ is _ s r, d, n, h => by
    simp only [Lf.weight] at h ⊢
    by_cases hd : 512 < d
    · obtain ⟨y, hy, hy2⟩ := Lf.cnt_small r d n (by omega)
      exact ⟨y, by rw [Lf.cnt, if_pos hd]; exact hy, by omega⟩
    · obtain ⟨x, hx, hx2⟩ := Ls.cnt_small s (d + 1) (n + (1 + (is.length : Int))) (by omega)
      obtain ⟨y, hy, hy2⟩ := Lf.cnt_small r d x (by omega)
      exact ⟨y, by rw [Lf.cnt, if_neg hd, if_neg (by omega), hx]; exact hy, by omega⟩
theorem Ls.cnt_small : ∀ (l : Ls) (d : Nat) (n : Int), n + l.weight ≤ 1000000 → ∃ x, l.cnt d n = .ok x ∧ x ≤ n + l.weight
  | .nil, _, n, _ => ⟨n, rfl, by simp [Ls.weight]⟩
  | .sub l r, d, n, h => by
    simp only [Ls.weight] at h ⊢
    obtain ⟨x, hx, hx2⟩ := Lf.cnt_small l d n (by omega)
    obtain ⟨y, hy, hy2⟩ := Ls.cnt_small r d x (by omega)
    exact ⟨y, by rw [Ls.cnt, hx]; exact hy, by omega⟩
end
theorem same_plain {l : Lf} (st : Int) (hs : smallB l = true) (hh : l.shaped = true) : rwP st (samesT l.len) l false = (0, l) := by
  have h1 : l.depth ≤ 60 ∧ l.weight ≤ 3000 := by simpa [smallB] using hs
  refine rwP_ok (check_small (by omega) (by omega) hh) (samesT_ok _) (m := 0) ?_ (by omega) ?_
  · rw [samesT_rc]; exact rw_sames st l 0
  · obtain ⟨x, hx, hx2⟩ := Lf.cnt_small l 1 0 (by omega)
    unfold Lf.cnt0
    rw [hx]
    simp only; omega
/-- the terms as they are made -/
structure TM (w wr : World) (G n k : Nat) : Prop where
  bel : Below w.heap.size w wr
  hG : w.heap.size ≤ G ∧ G < wr.heap.size
  cs : ∀ j, j < n → wr.cell? ⟨G, j * 4, none⟩ = some (.int .i64 (if j < k then 1 else 0)) ∧ wr.cell? ⟨G, j * 4 + 1, none⟩ = some (.slice none 0 0) ∧ wr.cell? ⟨G, j * 4 + 2, none⟩ = some (.bool false) ∧ wr.cell? ⟨G, j * 4 + 3, none⟩ = some (.slice none 0 0)
  fz : ∀ j, wr.frozen? ⟨G, j, none⟩ = false
theorem TM.put {w wr : World} {G n k : Nat} (h : TM w wr G n k) (hk : k < n) : TM w (wr.setCell ⟨G, k * 4, none⟩ (.int .i64 1)) G n (k + 1) := by
  refine ⟨h.bel.setCell (p := ⟨G, k * 4, none⟩) h.hG.1 _, ⟨h.hG.1, by simpa [World.setCell] using h.hG.2⟩, fun j hj => ?_, fun j => (World.frozen?_setCells _ [_] _ _ ⟨G, j, none⟩).trans (h.fz j)⟩
  obtain ⟨c0, c1, c2, c3⟩ := h.cs j hj
  have ne : ∀ a : Nat, a ≠ k * 4 → ∀ v, wr.cell? ⟨G, a, none⟩ = some v → (wr.setCell ⟨G, k * 4, none⟩ (.int .i64 1)).cell? ⟨G, a, none⟩ = some v := fun a ha v hv => (World.cell?_setCell_other _ _ _ _ (fun e => by injection e with _ e; omega)).trans hv
  refine ⟨?_, ne _ (by omega) _ c1, ne _ (by omega) _ c2, ne _ (by omega) _ c3⟩
  by_cases e : j = k
  · subst e
    rw [if_pos (Nat.lt_succ_self _)]
    exact World.cell?_setCell_same _ _ _ c0
  · have := ne (j * 4) (by omega) _ c0
    rw [this]
    by_cases hjk : j < k
    · rw [if_pos hjk, if_pos (by omega)]
    · rw [if_neg hjk, if_neg (by omega)]
theorem TM.at {w wr : World} {G n : Nat} (h : TM w wr G n n) : ∀ m j, j + m = n → (samesT m).At wr wr.heap.size G (j * 4)
  | 0, _, _ => trivial
  | m + 1, j, e => by
    obtain ⟨c0, c1, c2, c3⟩ := h.cs j (by omega)
    rw [if_pos (by omega)] at c0
    have := TM.at h m (j + 1) (by omega)
    rw [show (j + 1) * 4 = j * 4 + 4 by omega] at this
    exact ⟨c0, ⟨none, 0, c1, by simp, .inl rfl⟩, c2, ⟨none, 0, c3, by simp [Ts.len], .inl rfl⟩, this⟩
theorem TM.in {w wr : World} {G n : Nat} (h : TM w wr G n n) (hn : n ≤ 140737488355328) : (samesT n).In wr wr.heap.size (some ⟨G, 0, none⟩) :=
  ⟨by rw [samesT_len]; exact hn, .inr ⟨G, 0, rfl, h.hG.2, by have := TM.at h n 0 (by omega); rw [Nat.zero_mul] at this; exact this⟩⟩
theorem info_term : (Try.prog.info? 37).map (fun i => (i.zero, i.size, i.bytes)) = some (some (.agg #[.int .i64 0, .slice none 0 0, .bool false, .slice none 0 0]), 4, 64) := by kernel_rfl
theorem make_terms (n : Nat) (hn : n ≤ 1073741824) (w : World) : ∃ W : World, (Instr.makeSlice 22 (.int .i64 n) (.int .i64 n)).run Try.prog w = .ok (.slice (some ⟨w.heap.size, 0, none⟩) n n) W ∧ TM w W w.heap.size n 0 := by
  obtain ⟨i0, hi, hz0, hz1, hz2⟩ := info_parts info_term
  have h := run_make (P := Try.prog) w 22 37 i0 (.agg #[.int .i64 0, .slice none 0 0, .bool false, .slice none 0 0]) Try.underlying22 hi hz0 .i64 .i64 n n (by omega) (by omega) (by rw [hz2]; omega) (by omega)
  rw [hz1] at h
  refine ⟨_, h, ?_⟩
  have hk := heap_alloc_new w (.cells (madeCells (Value.agg #[.int .i64 0, .slice none 0 0, .bool false, .slice none 0 0]).cells ((n : Int).toNat * 4)) 37)
  have hc : ∀ a, a < n * 4 → (madeCells (Value.agg #[.int .i64 0, .slice none 0 0, .bool false, .slice none 0 0]).cells ((n : Int).toNat * 4))[a]? = some (#[Value.int .i64 0, .slice none 0 0, .bool false, .slice none 0 0][a % 4]!) := fun a ha => by
    simp [madeCells, Value.cells, ha]
  generalize hW : w.alloc _ = W at hk ⊢
  refine ⟨by rw [← hW]; exact (Below.refl _ w).alloc (Nat.le_refl _) _, ⟨Nat.le_refl _, lt_blk hk⟩, fun j hj => ?_, fun j => by simp [World.frozen?, hk]⟩
  rw [if_neg (by omega)]
  refine ⟨cell_blk hk ((hc _ (by omega)).trans ?_), cell_blk hk ((hc _ (by omega)).trans ?_), cell_blk hk ((hc _ (by omega)).trans ?_), cell_blk hk ((hc _ (by omega)).trans ?_)⟩
  · rw [show j * 4 % 4 = 0 by omega]; rfl
  · rw [show (j * 4 + 1) % 4 = 1 by omega]; rfl
  · rw [show (j * 4 + 2) % 4 = 2 by omega]; rfl
  · rw [show (j * 4 + 3) % 4 = 3 by omega]; rfl
end Go.Proofs.Ytcadeeldogknmaa
