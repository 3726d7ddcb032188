/- Z5, R1 as one. -/
import Derived.Test.YtcadeeldogknmaaZ4
import Derived.Laws.MakeOwn
import Derived.Test.YtcadeeldogknmaaT3
import Derived.Test.YtcadeeldogknmaaL2
import Derived.Test.YtcadeeldogknmaaFM
/- Copies of lists, all of them. -/
namespace Go.Proofs.Ytcadeeldogknmaa
open Go.RowKit

theorem make_leaks (n : Nat) (hn : n ≤ 1073741824) : ∃ Z : Array Value, (∀ w : World, (Instr.makeSlice 23 (.int .i64 n) (.int .i64 n)).run Try.prog w = .ok (.slice (some ⟨w.heap.size, 0, none⟩) n n) (w.alloc (.cells Z 47 (0, 0)))) ∧ Z.size = n * 4 := by
  obtain ⟨i0, hi, hz0, hz1, hz2⟩ := info_parts info_leak
  refine ⟨madeCells (Value.agg #[.int .i64 0, .slice none 0 0, .bool false, .slice none 0 0]).cells (n * 4), fun w => ?_, size_madeCells _ _⟩
  have h := run_make (P := Try.prog) w 23 47 i0 (.agg #[.int .i64 0, .slice none 0 0, .bool false, .slice none 0 0]) Try.underlying23 hi hz0 .i64 .i64 n n (by omega) (by omega) (by rw [hz2]; omega) (by omega)
  rw [hz1] at h
  exact h
theorem four_at {W : World} {R o : Nat} {x0 x1 x2 x3 y0 y1 y2 y3 : Value} (r0 : W.cell? ⟨R, o, none⟩ = some y0) (r1 : W.cell? ⟨R, o + 1, none⟩ = some y1) (r2 : W.cell? ⟨R, o + 2, none⟩ = some y2) (r3 : W.cell? ⟨R, o + 3, none⟩ = some y3) :
    ∃ W', W' = (((W.setCell ⟨R, o, none⟩ x0).setCell ⟨R, o + 1, none⟩ x1).setCell ⟨R, o + 2, none⟩ x2).setCell ⟨R, o + 3, none⟩ x3 ∧ (W'.cell? ⟨R, o, none⟩ = some x0 ∧ W'.cell? ⟨R, o + 1, none⟩ = some x1 ∧ W'.cell? ⟨R, o + 2, none⟩ = some x2 ∧ W'.cell? ⟨R, o + 3, none⟩ = some x3) ∧ (∀ j, (j < o ∨ o + 4 ≤ j) → W'.cell? ⟨R, j, none⟩ = W.cell? ⟨R, j, none⟩) ∧ (∀ kk, kk ≠ R → W'.heap[kk]? = W.heap[kk]?) ∧ W'.heap.size = W.heap.size ∧ (∀ B, B ≤ R → Below B W W') ∧ ∀ j, W'.frozen? ⟨R, j, none⟩ = W.frozen? ⟨R, j, none⟩ := by
  have ne : ∀ a b : Nat, a ≠ b → (⟨R, a, none⟩ : Addr) ≠ ⟨R, b, none⟩ := fun a b h e => h (by injection e)
  refine ⟨_, rfl, ⟨?_, ?_, ?_, ?_⟩, fun j hj => ?_, fun kk h => ?_, ?_, fun B hB => ?_, fun j => ?_⟩
  · rw [World.cell?_setCell_other _ _ _ _ (ne _ _ (by omega)), World.cell?_setCell_other _ _ _ _ (ne _ _ (by omega)), World.cell?_setCell_other _ _ _ _ (ne _ _ (by omega))]; exact World.cell?_setCell_same _ _ _ r0
  · rw [World.cell?_setCell_other _ _ _ _ (ne _ _ (by omega)), World.cell?_setCell_other _ _ _ _ (ne _ _ (by omega))]; exact World.cell?_setCell_same _ _ _ ((World.cell?_setCell_other _ _ _ _ (ne _ _ (by omega))).trans r1)
  · rw [World.cell?_setCell_other _ _ _ _ (ne _ _ (by omega))]; exact World.cell?_setCell_same _ _ _ ((World.cell?_setCell_other _ _ _ _ (ne _ _ (by omega))).trans ((World.cell?_setCell_other _ _ _ _ (ne _ _ (by omega))).trans r2))
  · exact World.cell?_setCell_same _ _ _ ((World.cell?_setCell_other _ _ _ _ (ne _ _ (by omega))).trans ((World.cell?_setCell_other _ _ _ _ (ne _ _ (by omega))).trans ((World.cell?_setCell_other _ _ _ _ (ne _ _ (by omega))).trans r3)))
  · rw [World.cell?_setCell_other _ _ _ _ (ne _ _ (by omega)), World.cell?_setCell_other _ _ _ _ (ne _ _ (by omega)), World.cell?_setCell_other _ _ _ _ (ne _ _ (by omega)), World.cell?_setCell_other _ _ _ _ (ne _ _ (by omega))]
  · rw [Below.heap_setCell _ _ _ _ h, Below.heap_setCell _ _ _ _ h, Below.heap_setCell _ _ _ _ h, Below.heap_setCell _ _ _ _ h]
  · simp [World.setCell]
  · exact ((((Below.refl B W).setCell (p := ⟨R, o, none⟩) hB _).setCell (p := ⟨R, o + 1, none⟩) hB _).setCell (p := ⟨R, o + 2, none⟩) hB _).setCell (p := ⟨R, o + 3, none⟩) hB _
  · exact (World.frozen?_setCells _ [_] _ _ ⟨R, j, none⟩).trans ((World.frozen?_setCells _ [_] _ _ ⟨R, j, none⟩).trans ((World.frozen?_setCells _ [_] _ _ ⟨R, j, none⟩).trans (World.frozen?_setCells _ [_] _ _ ⟨R, j, none⟩)))
/-- the copy so far -/
structure CL (w wr : World) (G n : Nat) (ds : Lf) : Prop where
  bel : Below w.heap.size w wr
  hG : w.heap.size ≤ G ∧ G < wr.heap.size
  ex : ∀ j, j < n * 4 → ∃ u, wr.cell? ⟨G, j, none⟩ = some u
  fz : ∀ j, wr.frozen? ⟨G, j, none⟩ = false
  cs : ∃ (news : List Value) (S : Nat → Bool), news.length = ds.len * 4 ∧ ds.Cells (cut S wr) wr.heap.size news ∧ (∀ j u, news[j]? = some u → wr.cell? ⟨G, j, none⟩ = some u) ∧ ∀ i, S i = true → G < i ∧ i < wr.heap.size
theorem CL.step {w wr w1 : World} {G n : Nat} {ds : Lf} {k : Int} {is : List Int} {t : Bool} {subs : Ls} {q1 q2 : Option Addr} {d1 d2 : Nat} (h : CL w wr G n ds) (hlt : ds.len < n) (hB : Below wr.heap.size wr w1) (hN : New wr w1 fun u N => Sl N q1 is.length (Ints u is) ∧ subs.In u N q2) :
    (∃ y0 y1 y2 y3, w1.cell? ⟨G, ds.len * 4, none⟩ = some y0 ∧ w1.cell? ⟨G, ds.len * 4 + 1, none⟩ = some y1 ∧ w1.cell? ⟨G, ds.len * 4 + 2, none⟩ = some y2 ∧ w1.cell? ⟨G, ds.len * 4 + 3, none⟩ = some y3) ∧ (∀ j, w1.frozen? ⟨G, j, none⟩ = false) ∧
    ∃ W', W' = (((w1.setCell ⟨G, ds.len * 4, none⟩ (.int .i64 k)).setCell ⟨G, ds.len * 4 + 1, none⟩ (.slice q1 is.length d1)).setCell ⟨G, ds.len * 4 + 2, none⟩ (.bool t)).setCell ⟨G, ds.len * 4 + 3, none⟩ (.slice q2 subs.len d2) ∧ CL w W' G n (ds.cat (.node k is t subs .nil)) := by
  obtain ⟨h1, h2, h3, h4, ⟨news, S, n1, n2, n3, n4⟩⟩ := h
  have hc : ∀ j, w1.cell? ⟨G, j, none⟩ = wr.cell? ⟨G, j, none⟩ := fun j => hB.cell (p := ⟨G, j, none⟩) h2.2
  obtain ⟨y0, e0⟩ := h3 (ds.len * 4) (by omega)
  obtain ⟨y1, e1⟩ := h3 (ds.len * 4 + 1) (by omega)
  obtain ⟨y2, e2⟩ := h3 (ds.len * 4 + 2) (by omega)
  obtain ⟨y3, e3⟩ := h3 (ds.len * 4 + 3) (by omega)
  have hf : ∀ j, w1.frozen? ⟨G, j, none⟩ = false := fun j => (World.frozen?_of_block (hB.block G h2.2)).trans (h4 j)
  obtain ⟨W', eW, ⟨c0, c1, c2, c3⟩, hcs, hbl, hsz, hBl, hfz⟩ := four_at (x0 := .int .i64 k) (x1 := .slice q1 is.length d1) (x2 := .bool t) (x3 := .slice q2 subs.len d2) ((hc _).trans e0) ((hc _).trans e1) ((hc _).trans e2) ((hc _).trans e3)
  refine ⟨⟨y0, y1, y2, y3, (hc _).trans e0, (hc _).trans e1, (hc _).trans e2, (hc _).trans e3⟩, hf, W', eW, ⟨(h1.trans (hB.mono h1.size)).trans (hBl _ h2.1), ⟨h2.1, by have := hB.size; omega⟩, fun j hj => ?_, fun j => (hfz j).trans (hf j), ?_⟩⟩
  · by_cases hj' : j < ds.len * 4 ∨ ds.len * 4 + 4 ≤ j
    · obtain ⟨u, hu⟩ := h3 j hj
      exact ⟨u, (hcs j hj').trans ((hc j).trans hu)⟩
    · have : j = ds.len * 4 ∨ j = ds.len * 4 + 1 ∨ j = ds.len * 4 + 2 ∨ j = ds.len * 4 + 3 := by omega
      rcases this with rfl | rfl | rfl | rfl
      · exact ⟨_, c0⟩
      · exact ⟨_, c1⟩
      · exact ⟨_, c2⟩
      · exact ⟨_, c3⟩
  · obtain ⟨T, k2, k3⟩ := hN
    have hor : ∀ i, (S i || T i) = true → S i = true ∨ T i = true := fun i h => by simpa using h
    have hBs := hB.size
    refine ⟨news ++ [.int .i64 k, .slice q1 is.length d1, .bool t, .slice q2 subs.len d2], fun i => S i || T i, by rw [List.length_append, n1, Lf.cat_len]; simp [Lf.len]; omega, ?_, fun j u hu => ?_, fun i hi => ?_⟩
    · have hTl : Le (cut T w1) (cut (fun i => S i || T i) W') := Le.cut2 fun b hb => ⟨by simp [hb], fun o v hv => by
        have := hbl b (by have := (k3 b hb).1; omega)
        simp only [World.cell?] at hv ⊢
        rw [this]; exact hv⟩
      have hSl : Le (cut S wr) (cut (fun i => S i || T i) W') := Le.cut2 fun b hb => ⟨by simp [hb], fun o v hv => by
        have := (hbl b (by have := (n4 b hb).1; omega)).trans (hB.block b (n4 b hb).2)
        simp only [World.cell?] at hv ⊢
        rw [this]; exact hv⟩
      have e1 := Lf.Cells.le hSl (show wr.heap.size ≤ W'.heap.size by omega) ds news n2
      have e2 : (Lf.node k is t subs .nil).Cells (cut (fun i => S i || T i) W') W'.heap.size [.int .i64 k, .slice q1 is.length d1, .bool t, .slice q2 subs.len d2] := ⟨q1, d1, q2, d2, [], rfl, (mono_ints is q1) _ _ _ _ k2.1 hTl (by omega), (mono_lsin subs q2) _ _ _ _ k2.2 hTl (by omega), rfl⟩
      exact Lf.Cells.cat e2 ds news e1
    · rcases Nat.lt_or_ge j (ds.len * 4) with hj | hj
      · rw [List.getElem?_append_left (by omega)] at hu
        exact (hcs j (.inl hj)).trans ((hc j).trans (n3 j u hu))
      · rw [List.getElem?_append_right (by omega), n1] at hu
        obtain ⟨jj, rfl⟩ : ∃ jj, j = ds.len * 4 + jj := ⟨j - ds.len * 4, by omega⟩
        rw [show ds.len * 4 + jj - ds.len * 4 = jj by omega] at hu
        rcases jj with _ | _ | _ | _ | jj
        · cases hu; exact c0
        · cases hu; exact c1
        · cases hu; exact c2
        · cases hu; exact c3
        · simp at hu
    · rcases hor i hi with h | h
      · have := n4 i h; omega
      · have := k3 i h; omega
theorem CL.end {w wr : World} {G : Nat} {ds : Lf} (h : CL w wr G ds.len ds) (hl : ds.len ≤ 140737488355328) : Below w.heap.size w wr ∧ New w wr fun u N => ds.In u N (some ⟨G, 0, none⟩) := by
  obtain ⟨h1, h2, h3, h4, ⟨news, S, n1, n2, n3, n4⟩⟩ := h
  refine ⟨h1, fun i => S i || i == G, ⟨hl, .inr ⟨G, 0, rfl, h2.2, Lf.At.ofCells (Le.cut2 fun b hb => ⟨by simp [hb], fun o v hv => hv⟩) (Nat.le_refl _) ds news 0 n2 fun j u hu => ?_⟩⟩, fun i hi => ?_⟩
  · rw [cell_cut, if_pos (by simp), Nat.zero_add]; exact n3 j u hu
  · have : S i = true ∨ i = G := by simpa using hi
    rcases this with h | rfl
    · have := n4 i h; omega
    · exact h2
set_option maxRecDepth 100000 in
set_option maxHeartbeats 6400000 in
theorem cpl_step (n : Nat) (ih : CpL n) : CpL (n + 1) := by
  intro l hsz hbig p c N w h hN
  have IH := Lib.hid ih
  have HNN := Lib.hid (And.intro hN (And.intro hsz hbig))
  have HH := Lib.hid h
  have hll : l.len ≤ 1073741824 := Nat.le_trans (Lf.len_wt l) hbig
  clear ih hN hsz hbig h
  by_cases h0 : l.len = 0
  · rw [h0]
    go_enter Try.func18, Try.ntmps18
    go_wp2_with fail
    go_ret
    exact ⟨none, 0, rfl, Below.refl _ _, fun _ => false, ⟨by omega, .inl h0⟩, fun _ h => by cases h⟩
  have h0i : ((l.len : Int) == 0) = false := by simp; omega
  obtain ⟨b, o, hp, hb, ha⟩ : ∃ b o, p = some ⟨b, o, none⟩ ∧ b < N ∧ l.At w N b o := by
    rcases HH.out.2 with h | ⟨b, o, hp, hb, ha⟩
    · omega
    · exact ⟨b, o, hp, hb, ha⟩
  subst hp
  obtain ⟨Z, hmk, hZ⟩ := make_leaks l.len hll
  have hmk' := hmk w
  obtain ⟨W0, hW0⟩ : ∃ W0, w.alloc (.cells Z 47 (0, 0)) = W0 := ⟨_, rfl⟩
  have hk0 : W0.heap[w.heap.size]? = some (.cells Z 47 (0, 0)) := by rw [← hW0]; exact heap_alloc_new w _
  have HC0 := Lib.hid (show CL w W0 w.heap.size l.len .nil from ⟨by rw [← hW0]; exact (Below.refl _ w).alloc (Nat.le_refl _) _, ⟨Nat.le_refl _, lt_blk hk0⟩, fun j hj => ⟨_, cell_blk hk0 (Array.getElem?_eq_getElem (show j < Z.size by omega))⟩, fun j => by simp [World.frozen?, hk0], [], fun _ => false, rfl, rfl, (fun j u hu => (by simp at hu)), fun _ h => by cases h⟩)
  have HA := Lib.hid (And.intro hb ha)
  rw [hW0] at hmk'
  clear hmk hZ hk0 hb ha
  go_enter Try.func18, Try.ntmps18
  go_wp2_with fail
  clear hW0 hmk'
  generalize w.heap.size = G at HC0 ⊢
  go_loopw [4, 13] (fun s4 i wr => ∃ (ds rs : Lf), i = .int .i64 ds.len ∧ ds.len + rs.len = l.len ∧ Hid (l = ds.cat rs) ∧ Hid (CL w wr G l.len ds)) (fun _ i _ => l.len - (intOf i).toNat)
  case atStart => exact ⟨.nil, l, rfl, by simp [Lf.len], Lib.hid rfl, HC0⟩
  case round =>
    clear HC0
    obtain ⟨ds, rs, rfl, hk, hE, HCL⟩ := hrel
    obtain ⟨wp, rfl⟩ : ∃ wp : World, wp = wr := ⟨_, rfl⟩
    cases rs with
    | nil =>
      simp only [Lf.len] at hk
      have hge : ¬ ds.len < l.len := by omega
      have hds : l = ds := by rw [hE.out, Lf.cat_nil]
      have HF := Lib.hid (show Below w.heap.size w wp ∧ New w wp fun u N => l.In u N (some ⟨G, 0, none⟩) from by
        have h1 := HCL.out
        rw [hds] at h1 hll ⊢
        exact CL.end h1 (by omega))
      clear hE HCL hds
      go_wp2_with fail
      go_ret
      exact ⟨some ⟨G, 0, none⟩, l.len, rfl, HF.out⟩
    | node k is t subs r =>
      simp only [Lf.len] at hk
      have hlt : ds.len < l.len := by omega
      have ha := HA.out.2
      rw [hE.out] at ha
      have hbe := HCL.out.bel
      obtain ⟨e0, ⟨p1, c1, e1, s1⟩, e2, ⟨q1, d1, e3, s3⟩, _⟩ := Lf.At.drop ds _ b o ha
      have hbw : b < w.heap.size := Nat.lt_of_lt_of_le HA.out.1 HNN.out.1
      have hwl : subs.wt < n ∧ subs.wt ≤ 1073741824 ∧ is.length ≤ 1073741824 := by
        have h1 := HNN.out.2
        rw [hE.out, Lf.cat_wt] at h1
        simp only [Lf.wt] at h1
        omega
      have HC := Lib.hid (copyNode_of n IH.out k is t subs hwl.1 hwl.2.1 hwl.2.2 p1 q1 c1 d1 b (o + ds.len * 4) N wp (Nat.le_trans HNN.out.1 hbe.size) HA.out.1 ((hbe.cell (p := ⟨b, _, none⟩) hbw).trans e0) ((hbe.cell (p := ⟨b, _, none⟩) hbw).trans e1) (s1.imp (Nat.le_refl N) fun b' o' hb' ha' => Ints.later (hbe.mono HNN.out.1) is b' o' hb' ha') ((hbe.cell (p := ⟨b, _, none⟩) hbw).trans e2) ((hbe.cell (p := ⟨b, _, none⟩) hbw).trans e3) (s3.imp (Nat.le_refl N) fun b' o' hb' ha' => Ls.At.later (hbe.mono HNN.out.1) (Nat.le_refl N) subs b' o' hb' ha'))
      clear ha e0 e1 e2 e3 s1 s3 hbe hwl hbw
      go_wp2_with fail
      refine HC.out.mono ?_
      rintro e w1 ⟨qa, da, qb, db, rfl, hB1, hN1⟩
      obtain ⟨⟨y0, y1, y2, y3, z0, z1, z2, z3⟩, zf, W', hW', hCL'⟩ := HCL.out.step (k := k) (t := t) (d1 := da) (d2 := db) hlt hB1 hN1
      have f0 := zf (ds.len * 4)
      have f1 := zf (ds.len * 4 + 1)
      have f2 := zf (ds.len * 4 + 2)
      have f3 := zf (ds.len * 4 + 3)
      have HCL' := Lib.hid hCL'
      clear zf hB1 hN1 hCL' HC
      go_wp2_with fail
      rw [← hW']
      go_roundw
      case rel => exact ⟨ds.cat (.node k is t subs .nil), r, by rw [Lf.cat_len]; simp only [Lf.len]; go_num, by rw [Lf.cat_len]; simp only [Lf.len]; omega, Lib.hid (by rw [hE.out, Lf.cat_assoc]; rfl), HCL'⟩
      case measure => simp [intOf]; omega
theorem cpl_to : ∀ n, CpL n
  | 0 => fun _ h => absurd h (Nat.not_lt_zero _)
  | n + 1 => cpl_step n (cpl_to n)
end Go.Proofs.Ytcadeeldogknmaa
/- Rewriting: small functions. -/
namespace Go.Proofs.Ytcadeeldogknmaa
open Go.RowKit

set_option maxHeartbeats 1600000 in
theorem must_true (w : World) : Calls Try.prog 58 #[.bool true] w fun e w' => e = .returned (.tuple #[]) ∧ w = w' := by
  go_enter Try.func58, Try.ntmps58
  go_wp2_with fail
  go_end0
  exact ⟨rfl, rfl⟩
set_option maxHeartbeats 1600000 in
theorem must_false (w : World) : Calls Try.prog 58 #[.bool false] w fun e w' => e = panicked 2 ∧ w = w' := by
  go_enter Try.func58, Try.ntmps58
  go_wp2_with fail
  exact ⟨rfl, rfl, rfl⟩
set_option maxHeartbeats 1600000 in
theorem asMany_same (n : Nat) (br : Bool) (w : World) : Calls Try.prog 46 #[.int .i64 n, .int .i64 n, .bool br] w fun e w' => e = .returned (.tuple #[]) ∧ w = w' := by
  have HM := Lib.hid (must_true w)
  go_enter Try.func46, Try.ntmps46
  go_wp2_with (go_at_call 58; refine HM.out.mono ?_; rintro e w' ⟨rfl, rfl⟩)
  go_end0
  exact ⟨rfl, rfl⟩

def lenSum : List (List Pk) → Nat
  | [] => 0
  | l :: ls => l.length + lenSum ls
theorem linesW_eq : ∀ ls : List (List Pk), linesW ls = ls.length + lenSum ls
  | [] => rfl
  | l :: ls => by have := linesW_eq ls; simp only [linesW, lenSum, List.length_cons]; omega
structure LR (w w1 wr : World) (v : Value) (g : Int) (m : Nat) : Prop where
  bel : Below w.heap.size w wr
  bel1 : Below w1.heap.size w1 wr
  c0 : wr.cell? ⟨w1.heap.size, 0, none⟩ = some v
  c1 : wr.cell? ⟨w1.heap.size, 1, none⟩ = some (.int .i64 g)
  c2 : wr.cell? ⟨w1.heap.size, 2, none⟩ = some (.int .i64 m)
  z2 : wr.frozen? ⟨w1.heap.size, 2, none⟩ = false
theorem LR.set {w w1 wr : World} {v : Value} {g : Int} {m : Nat} (h : LR w w1 wr v g m) (hB : w.heap.size ≤ w1.heap.size) (n : Nat) (u : Value) (hu : u = .int .i64 n) : LR w w1 (wr.setCell ⟨w1.heap.size, 2, none⟩ u) v g n := by
  subst hu
  exact ⟨h.bel.setCell hB _, h.bel1.setCell (Nat.le_refl _) _, (World.cell?_setCell_other _ _ _ _ (by simp)).trans h.c0, (World.cell?_setCell_other _ _ _ _ (by simp)).trans h.c1, World.cell?_setCell_same _ _ _ h.c2, by simpa using h.z2⟩

set_option maxHeartbeats 1600000 in
theorem linesOf_any (ls : List (List Pk)) (p : Option Addr) (cap N : Nat) (w : World) (h : Sl N p ls.length (Plines w N ls)) (hN : N ≤ w.heap.size) (hw : linesW ls ≤ 1000000000) :
    Calls Try.prog 47 #[.slice p ls.length cap] w fun e w' => e = .returned (.agg #[.slice p ls.length cap, .int .i64 (greatestL ls), .int .i64 (linesW ls)]) ∧ Below w.heap.size w w' := by
  have S0 := Lib.hid h
  have hm := h.1
  have HG := Lib.hid (fun (w1 : World) (hB : Below w.heap.size w w1) => greatest_any ls p cap N w1 (h.imp (Nat.le_refl _) fun b' o' hb' ha' => Plines.later (hB.mono hN) (Nat.le_refl _) _ _ _ hb' ha') (Nat.le_trans hN hB.size))
  have HA := Lib.hid ((Below.refl _ w).alloc (Nat.le_refl _) (.cells #[.slice none 0 0, .int .i64 0, .int .i64 0] 83))
  have HC := Lib.hid (show ∀ w1, Below (w.alloc (.cells #[.slice none 0 0, .int .i64 0, .int .i64 0] 83)).heap.size (w.alloc (.cells #[.slice none 0 0, .int .i64 0, .int .i64 0] 83)) w1 →
      (w1.cell? ⟨w.heap.size, 0, none⟩ = some (.slice none 0 0) ∧ w1.cell? ⟨w.heap.size, 1, none⟩ = some (.int .i64 0) ∧ w1.cell? ⟨w.heap.size, 2, none⟩ = some (.int .i64 0)) ∧ ∀ j, w1.frozen? ⟨w.heap.size, j, none⟩ = false from
    fun w1 hb => ⟨⟨(hb.cell (by simp)).trans (by simp [go_sem]), (hb.cell (by simp)).trans (by simp [go_sem]), (hb.cell (by simp)).trans (by simp [go_sem])⟩, fun j => (hb.frozen (by simp)).trans (by simp [go_sem])⟩)
  clear h
  go_enter Try.func47, Try.ntmps47
  go_wp2_with (go_at_call 60; refine (HG.out _ HA.out).mono ?_; rintro e w1 ⟨rfl, hB1⟩; obtain ⟨⟨c0, c1, c2⟩, fz⟩ := HC.out _ hB1; have z0 := fz 0; have z1 := fz 1; have z2 := fz 2; clear fz)
  have HL := Lib.hid (show LR w w1 (w1.alloc (.cells #[.slice p ls.length cap, .int .i64 (greatestL ls), .int .i64 ls.length] 83)) (.slice p ls.length cap) (greatestL ls) ls.length from
    ⟨(HA.out.trans (hB1.mono (by simp))).alloc (by have := hB1.size; simp at this; omega) _, (Below.refl _ _).alloc (Nat.le_refl _) _, by simp [go_sem], by simp [go_sem], by simp [go_sem], by simp [go_sem]⟩)
  have hs1 : w.heap.size ≤ w1.heap.size := by have := hB1.size; simp at this; omega
  have HW := Lib.hid (linesW_eq ls)
  have HC1 := Lib.hid (fun (w2 : World) (hb : Below w1.heap.size w1 w2) => HC.out w2 (hB1.trans (hb.mono hB1.size)))
  clear hB1 c0 c1 c2 z0 z1 z2
  go_loopw [14] (fun i wr => ∃ (ds rs : List (List Pk)) (m : Nat), i = .int .i64 ds.length ∧ ds.length + rs.length = ls.length ∧ Hid (ls = ds ++ rs) ∧ m + lenSum rs = linesW ls ∧ Hid (LR w w1 wr (.slice p ls.length cap) (greatestL ls) m))
    (fun i _ => ls.length - (intOf i).toNat)
  case atStart => exact ⟨[], ls, ls.length, rfl, by simp, Lib.hid rfl, by have := HW.out; omega, HL⟩
  case round =>
    clear HL
    obtain ⟨ds, rs, m, rfl, hj, hE, hm2, hL⟩ := hrel
    obtain ⟨hbel, hbel1, c0, c1, c2, z2⟩ := hL.out
    have HBel := Lib.hid hbel
    have HBel1 := Lib.hid hbel1
    clear hbel hbel1
    cases rs with
    | nil =>
      simp only [List.length_nil] at hj
      simp only [lenSum] at hm2
      have hge : ¬ ds.length < ls.length := by omega
      have E9 := Lib.hid hm2
      obtain ⟨⟨d0, d1, d2⟩, fz⟩ := HC1.out _ HBel1.out
      have e0 := fz 0
      have e1 := fz 1
      have e2 := fz 2
      clear hm2 fz
      go_wp2_with fail
      have e9 : m = linesW ls := by have := E9.out; omega
      subst e9
      have k0 := World.cell?_setCell_same wr ⟨w.heap.size, 0, none⟩ (.slice p ls.length cap) d0
      have k1 := World.cell?_setCell_same (wr.setCell ⟨w.heap.size, 0, none⟩ (.slice p ls.length cap)) ⟨w.heap.size, 1, none⟩ (.int .i64 (greatestL ls)) ((World.cell?_setCell_other _ _ _ _ (by simp)).trans d1)
      have k2 := World.cell?_setCell_same ((wr.setCell ⟨w.heap.size, 0, none⟩ (.slice p ls.length cap)).setCell ⟨w.heap.size, 1, none⟩ (.int .i64 (greatestL ls))) ⟨w.heap.size, 2, none⟩ (.int .i64 (linesW ls : Int)) ((World.cell?_setCell_other _ _ _ _ (by simp)).trans ((World.cell?_setCell_other _ _ _ _ (by simp)).trans d2))
      refine bodyPost_ret (v := .agg #[.slice p ls.length cap, .int .i64 (greatestL ls), .int .i64 (linesW ls)]) (by simp [results, Try.results47, go_sem, k0, k1, k2]) rfl ⟨rfl, ?_⟩
      exact ((HBel.out.setCell (p := ⟨w.heap.size, 0, none⟩) (Nat.le_refl _) _).setCell (p := ⟨w.heap.size, 1, none⟩) (Nat.le_refl _) _).setCell (p := ⟨w.heap.size, 2, none⟩) (Nat.le_refl _) _
    | cons x rs =>
      simp only [List.length_cons] at hj
      simp only [lenSum] at hm2
      have hlt : ds.length < ls.length := by omega
      rcases S0.out.2 with h30 | ⟨b, o, rfl, hb, ha⟩
      · omega
      rw [hE.out] at ha
      obtain ⟨⟨q, c, g1, s1⟩, _⟩ := Plines.drop _ _ _ _ ha
      have f1 := (HBel.out.cell (show b < w.heap.size by omega)).trans g1
      have hxl := s1.1
      clear ha s1 g1
      go_wp2_with fail
      go_roundw
      case rel => exact ⟨ds ++ [x], rs, m + x.length, by rw [List.length_append]; go_num, by simp; omega, Lib.hid (by rw [hE.out]; simp), by omega, Lib.hid (hL.out.set hs1 _ _ (by simp))⟩
      case measure => simp [intOf]; omega
end Go.Proofs.Ytcadeeldogknmaa
