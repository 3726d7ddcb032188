/- ZR, T6, ZS as one. -/
import Derived.Test.YtcadeeldogknmaaC1
import Derived.Test.YtcadeeldogknmaaT5
import Derived.Test.YtcadeeldogknmaaZP
/- The closure that rewrites, caught. -/
namespace Go.Proofs.Ytcadeeldogknmaa
open Go.RowKit

/-- what is left behind it -/
def C1End (g : Nat) (st : Int) (mp bo : Nat) (w : World) (R : Option (Lf × Nat)) (e : Ending) (w' : World) : Prop :=
  match R with
  | some (x, m) => e = .returned (.int .i64 0) ∧ ∃ w1 q c lo, w.heap.size < lo ∧ Ch g none (w.alloc (.cells #[.int .i64 0] 28)) w1 ∧ RwS w1 g st mp m ∧ OutL w1 lo (.slice q x.len c) x ∧ w' = (w1.setCell ⟨bo, 0, none⟩ (.slice q x.len c)).setCell ⟨w.heap.size, 0, none⟩ (.int .i64 0)
  | none => e = .returned (.int .i64 2) ∧ ∃ w1, Ch g none (w.alloc (.cells #[.int .i64 0] 28)) w1 ∧ w' = w1.setCell ⟨w.heap.size, 0, none⟩ (.int .i64 2)
theorem caught_any (t : Tf) (l : Lf) (p q : Option Addr) (ct cl : Nat) (br : Bool) (N g mp bt bk bb bo : Nat) (st : Int) (w : World) (hr : RwS w g st mp 0) (hm : w.heap[mp]? = some (fmap deedT)) (hmg : mp ≠ g) (hN : N ≤ g)
    (ht : w.cell? ⟨bt, 0, none⟩ = some (.slice p t.len ct)) (hk : w.cell? ⟨bk, 0, none⟩ = some (.slice q l.len cl)) (hb : w.cell? ⟨bb, 0, none⟩ = some (.bool br)) (ho : w.cell? ⟨bo, 0, none⟩ = some (.slice none 0 0)) (hoz : w.frozen? ⟨bo, 0, none⟩ = false) (hog : bo ≠ g)
    (hT : t.In w N p) (hL : l.In w N q) (hcap : ∀ b o, p = some ⟨b, o, none⟩ → t.Cap (cutN N w) b o) (hsz : t.size ≤ 1073741824) (hok : t.rok) (htf : t.rc.fine) (hs : l.shaped = true) (hw : l.wt ≤ 1073741824) :
    Calls Try.prog 22 #[.func (Fn.func 23) #[] #[.pointer (some ⟨g, 0, none⟩), .pointer (some ⟨bt, 0, none⟩), .pointer (some ⟨bk, 0, none⟩), .pointer (some ⟨bb, 0, none⟩), .pointer (some ⟨bo, 0, none⟩)]] w (C1End g st mp bo w (l.rw st t.rc br 0)) := by
  have hgl := hr.lt
  have hol : bo < w.heap.size := World.block_lt_of_cell? _ _ ho
  have hB : Below w.heap.size w (w.alloc (.cells #[.int .i64 0] 28)) := (Below.refl _ w).alloc (Nat.le_refl _) _
  have hn : (w.alloc (.cells #[.int .i64 0] 28)).heap[w.heap.size]? = some (.cells #[.int .i64 0] 28 (0, 0)) := heap_alloc_new w _
  have hsE : (w.alloc (.cells #[.int .i64 0] 28)).heap.size = w.heap.size + 1 := by simp
  have k : ∀ b o v, w.cell? ⟨b, o, none⟩ = some v → (w.alloc (.cells #[.int .i64 0] 28)).cell? ⟨b, o, none⟩ = some v := fun b o v h => (hB.cell (World.block_lt_of_cell? _ _ h)).trans h
  have hdo := rewrite1_any t l p q ct cl br N g mp bt bk bb bo st (w.alloc (.cells #[.int .i64 0] 28)) (hr.later hB hgl) ((hB.block mp (lt_blk hm)).trans hm) hmg hN (k _ _ _ ht) (k _ _ _ hk) (k _ _ _ hb) (k _ _ _ ho) ((World.frozen?_of_block (hB.block bo hol)).trans hoz) hog
    (Tf.In_later hT hB (by omega)) (In_later hL hB (by omega)) (fun b o e => Tf.Cap.congr (fun b o => cutN_cell (hB.mono (by omega)) b o) t b o (hcap b o e)) hsz hok htf hs hw
  have hz : ∀ W : World, W.heap[w.heap.size]? = some (.cells #[.int .i64 0] 28 (0, 0)) → W.frozen? ⟨w.heap.size, 0, none⟩ = false := fun W h => by simp [World.frozen?, h]
  have hcell : ∀ w1, Ch g none (w.alloc (.cells #[.int .i64 0] 28)) w1 → w1.cell? ⟨w.heap.size, 0, none⟩ = some (.int .i64 0) ∧ w1.frozen? ⟨w.heap.size, 0, none⟩ = false := fun w1 h =>
    ⟨(h.cell (show w.heap.size < _ by omega) (show w.heap.size ≠ g by omega) (by intro e; cases e)).trans (cell_blk hn rfl), (World.frozen?_of_block (h.block w.heap.size (by omega) (by omega) (by intro e; cases e))).trans (hz _ hn)⟩
  unfold C1End
  cases hR : l.rw st t.rc br 0 with
  | some r =>
    obtain ⟨x, m⟩ := r
    rw [hR] at hdo
    have HC := caught_rewrite _ w none (fun w1' => ∃ w1 q c lo, w.heap.size < lo ∧ Ch g none (w.alloc (.cells #[.int .i64 0] 28)) w1 ∧ RwS w1 g st mp m ∧ OutL w1 lo (.slice q x.len c) x ∧ w1' = w1.setCell ⟨bo, 0, none⟩ (.slice q x.len c)) (hdo.mono fun e w1' h => by
      obtain ⟨rfl, w1, q5, c5, lo, h1, h2, h3, h4, rfl⟩ := h
      obtain ⟨e1, e2⟩ := hcell w1 h2
      exact ⟨rfl, ⟨(World.cell?_setCell_other _ _ _ _ (fun e => by injection e with e; omega)).trans e1, (World.frozen?_setCells bo [_] 0 w1 ⟨w.heap.size, 0, none⟩).trans e2⟩, w1, q5, c5, lo, by omega, h2, h3, h4, rfl⟩)
    refine HC.mono fun e w' h => ?_
    obtain ⟨rfl, _, ⟨w1, q5, c5, lo, h1, h2, h3, h4, rfl⟩, _, rfl⟩ := h
    exact ⟨rfl, w1, q5, c5, lo, h1, h2, h3, h4, rfl⟩
  | none =>
    rw [hR] at hdo
    have HC := caught_rewrite _ w (some 2) (fun w1 => Ch g none (w.alloc (.cells #[.int .i64 0] 28)) w1) (hdo.mono fun e w1 h => by
      obtain ⟨rfl, h2⟩ := h
      exact ⟨rfl, hcell w1 h2, h2⟩)
    refine HC.mono fun e w' h => ?_
    obtain ⟨rfl, w1, h2, _, rfl⟩ := h
    exact ⟨rfl, w1, h2, rfl⟩
end Go.Proofs.Ytcadeeldogknmaa
/- May a list of terms be? -/
namespace Go.Proofs.Ytcadeeldogknmaa
open Go.RowKit

set_option maxHeartbeats 1600000 in
theorem terms_any (l : Tf) (p : Option Addr) (cap N : Nat) (w : World) (h : l.In w N p) (hN : N ≤ w.heap.size) (hd : l.deep ≤ 512) (hc : l.len + l.under ≤ 1000000) :
    Calls Try.prog 20 #[.slice p l.len cap] w fun e w' => e = .returned (.bool l.okT) ∧ Below w.heap.size w w' := by
  have hmf : ∀ (fn : Fn) (first cap : Array Value) (w : World), (Instr.makeFunc fn first cap).run Try.prog w = .ok (.func fn first cap) w := fun _ _ _ _ => rfl
  have hst : ∀ (a : Addr) (f : Fn) (c1 c2 : Array Value) (m : Mode) (w : World), (store a (.func f c1 c2) m).run Try.prog w = stored Try.prog w a (.func f c1 c2) m := fun _ _ _ _ _ _ => run_store _ _ _ _ _ rfl
  have HT := Lib.hid (fun (w1 : World) (hb : Below w.heap.size w w1) (hk : TK w.heap.size (w.heap.size + 1) w1 w1 1000000) => terms_to _ l (Nat.lt_succ_self _) p cap N w.heap.size (w.heap.size + 1) 1 1000000 w1 (Tf.In_later h hb hN) hN (by omega) (by omega) (by omega) (by omega) hk)
  clear h
  go_enter Try.func20, Try.ntmps20
  have HK := Lib.hid (show ∀ v, v = mayFn w.heap.size (w.heap.size + 1) → Below w.heap.size w ((w.alloc (Obj.cells #[Value.int IntKind.i64 1000000] 3)).alloc (Obj.cells #[v] 73)) ∧
      TK w.heap.size (w.heap.size + 1) ((w.alloc (Obj.cells #[Value.int IntKind.i64 1000000] 3)).alloc (Obj.cells #[v] 73)) ((w.alloc (Obj.cells #[Value.int IntKind.i64 1000000] 3)).alloc (Obj.cells #[v] 73)) 1000000 by
    rintro v rfl
    exact ⟨((Below.refl _ w).alloc (Nat.le_refl _) _).alloc (by simp) _, Below.refl _ _, by simp [go_sem], by simp [go_sem], by simp [go_sem, mayFn]⟩)
  go_wp2_with (go_at_call 33; refine (HT.out _ (HK.out _ rfl).1 (HK.out _ rfl).2).mono ?_; rintro e w1 ⟨rfl, hB, _⟩)
  go_ret
  exact ⟨rfl, (HK.out _ rfl).1.trans hB⟩
end Go.Proofs.Ytcadeeldogknmaa
/- Terms that may be are fine when made ready. -/
namespace Go.Proofs.Ytcadeeldogknmaa
open Go.RowKit

theorem linesW_app : ∀ a b : List (List Pk), linesW (a ++ b) = linesW a + linesW b
  | [], b => by simp [linesW]
  | l :: a, b => by rw [List.cons_append, linesW, linesW, linesW_app a b]; omega
theorem lines_weight : ∀ t : Tf, linesW t.lines ≤ t.weight
  | .nil => Nat.le_refl _
  | .node k ls t s r => by have := lines_weight r; rw [Tf.lines, linesW_app, Tf.weight]; omega
theorem behind_weight : ∀ s : Ts, linesW s.behind ≤ s.weight
  | .nil => Nat.zero_le _
  | .sub _ .nil => Nat.zero_le _
  | .sub l (.sub m r) => by have := lines_weight m; simp only [Ts.behind, Ts.weight]; omega
theorem picksOk_app (a b : List (List Pk)) (ha : picksOk a = true) (hb : picksOk b = true) : picksOk (a ++ b) = true := by
  unfold picksOk at *
  rw [List.all_append, ha, hb]; rfl
theorem lines_ok : ∀ t : Tf, t.okT = true → picksOk t.lines = true
  | .nil, _ => rfl
  | .node k ls t s r, h => by
    simp only [Tf.okT, Bool.and_eq_true] at h
    exact picksOk_app _ _ h.1.1.2 (lines_ok r h.2)
theorem behind_ok : ∀ s : Ts, s.okT = true → picksOk s.behind = true
  | .nil, _ => rfl
  | .sub _ .nil, _ => rfl
  | .sub l (.sub m r), h => by
    simp only [Ts.okT, Bool.and_eq_true] at h
    exact lines_ok m h.2.1
theorem subsOk_cases {k : Int} {n : Nat} {b : Bool} (h : subsOk k n b = true) : 1 ≤ k ∧ k ≤ 9 ∧ (k = 3 → n = 2) ∧ (k = 7 → n = 2) ∧ (k = 4 ∨ k = 5 ∨ k = 9 → n = 1) := by
  unfold subsOk at h
  split at h
  · omega
  · split at h
    · simp at h; omega
    · split at h
      · simp at h; omega
      · split at h
        · simp at h; omega
        · split at h
          · simp at h; omega
          · simp at h
theorem take1_fine : ∀ s : Rs, s.fine → s.take1.fine
  | .nil, _ => trivial
  | .sub _l _r, h => ⟨h.1, trivial⟩
theorem take1_len {s : Rs} (h : s.len = 2) : s.take1.len = 1 := by
  cases s with
  | nil => simp [Rs.len] at h
  | sub l r => rfl
mutual
theorem Tf.fine_of : ∀ t : Tf, t.okT = true → t.weight ≤ 1048576 → t.rok ∧ t.rc.fine
  | .nil, _, _ => ⟨trivial, trivial⟩
  | .node k ls tt s r, h, hw => by
    simp only [Tf.okT, Bool.and_eq_true] at h
    obtain ⟨⟨⟨h1, h2⟩, h3⟩, h4⟩ := h
    obtain ⟨c1, c2, c3, c4, c5⟩ := subsOk_cases h1
    have hb := behind_weight s
    simp only [Tf.weight] at hw
    obtain ⟨a1, a2⟩ := Ts.fine_of s h3 (by omega)
    obtain ⟨b1, b2⟩ := Tf.fine_of r h4 (by omega)
    refine ⟨⟨⟨by omega, fun e => ⟨c4 e, by omega⟩⟩, a1, b1⟩, ?_⟩
    rw [Tf.rc]
    refine ⟨⟨h2, ?_, by omega, ?_, c1, c2, fun e => ?_, fun e => ?_⟩, ?_, b2⟩
    · split
      · exact behind_ok s h3
      · rfl
    · split
      · omega
      · exact Nat.zero_le _
    · rw [if_neg (by omega), Ts.rs_len]; exact c3 e
    · by_cases e7 : k = 7
      · rw [if_pos e7]; exact take1_len (by rw [Ts.rs_len]; exact c4 e7)
      · rw [if_neg e7, Ts.rs_len]; exact c5 (by omega)
    · split
      · exact take1_fine _ a2
      · exact a2
theorem Ts.fine_of : ∀ s : Ts, s.okT = true → s.weight ≤ 1048576 → s.rok ∧ s.rs.fine
  | .nil, _, _ => ⟨trivial, trivial⟩
  | .sub l r, h, hw => by
    simp only [Ts.okT, Bool.and_eq_true] at h
    simp only [Ts.weight] at hw
    obtain ⟨a1, a2⟩ := Tf.fine_of l h.1 (by omega)
    obtain ⟨b1, b2⟩ := Ts.fine_of r h.2 (by omega)
    exact ⟨⟨a1, b1⟩, a2, b2⟩
end
end Go.Proofs.Ytcadeeldogknmaa
