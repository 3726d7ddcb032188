/- Terms made ready. -/
import Derived.Test.YtcadeeldogknmaaZO
import Derived.Test.YtcadeeldogknmaaR3
namespace Go.Proofs.Ytcadeeldogknmaa
open Go.RowKit

theorem make_recs (n : Nat) (hn : n ≤ 1073741824) : ∃ Z : Array Value, (∀ w : World, (Instr.makeSlice 67 (.int .i64 n) (.int .i64 n)).run Try.prog w = .ok (.slice (some ⟨w.heap.size, 0, none⟩) n n) (w.alloc (.cells Z 86 (0, 0)))) ∧ Z.size = n * 9 := by
  obtain ⟨i0, hi, hz0, hz1, hz2⟩ := info_parts info_recipe
  refine ⟨madeCells zRecipe.cells (n * 9), fun w => ?_, size_madeCells _ _⟩
  have h := run_make (P := Try.prog) w 67 86 i0 zRecipe Try.underlying67 hi hz0 .i64 .i64 n n (by omega) (by omega) (by rw [hz2]; omega) (by omega)
  rw [hz1] at h
  exact h
mutual
theorem Tf.At.le {w w' : World} {N M : Nat} (hw : Le w w') (hM : N ≤ M) : ∀ (l : Tf) (b o : Nat), Tf.At w N l b o → Tf.At w' M l b o
  | .nil, _, _, _ => trivial
  | .node k ls t subs rest, b, o, h => by
    obtain ⟨h0, ⟨p, c, h1, s1⟩, h2, ⟨q, d, h3, s3⟩, h4⟩ := h
    exact ⟨hw _ _ _ h0, ⟨p, c, hw _ _ _ h1, s1.imp' hM fun b' o' ha => Plines.le hw hM ls b' o' ha⟩, hw _ _ _ h2, ⟨q, d, hw _ _ _ h3, s3.imp' hM fun b' o' ha => Ts.At.le hw hM subs b' o' ha⟩, Tf.At.le hw hM rest b (o + 4) h4⟩
theorem Ts.At.le {w w' : World} {N M : Nat} (hw : Le w w') (hM : N ≤ M) : ∀ (l : Ts) (b o : Nat), Ts.At w N l b o → Ts.At w' M l b o
  | .nil, _, _, _ => trivial
  | .sub l rest, b, o, h => by
    obtain ⟨⟨p, c, h1, s1⟩, h4⟩ := h
    exact ⟨⟨p, c, hw _ _ _ h1, s1.imp' hM fun b' o' ha => Tf.At.le hw hM l b' o' ha⟩, Ts.At.le hw hM rest b (o + 1) h4⟩
end
mutual
/-- not too much for lines -/
def Tf.rok : Tf → Prop
  | .nil => True
  | .node k ls _ s r => (linesW ls ≤ 1048576 ∧ (k = 7 → s.len = 2 ∧ linesW s.behind ≤ 1048576)) ∧ s.rok ∧ r.rok
def Ts.rok : Ts → Prop
  | .nil => True
  | .sub l r => l.rok ∧ r.rok
end
theorem Tf.len_size : ∀ t : Tf, t.len ≤ t.size
  | .nil => Nat.le_refl _
  | .node k ls t s r => by have := Tf.len_size r; simp only [Tf.len, Tf.size]; omega
theorem Ts.len_size : ∀ t : Ts, t.len ≤ t.size
  | .nil => Nat.le_refl _
  | .sub l r => by have := Ts.len_size r; simp only [Ts.len, Ts.size]; omega
theorem Ts.two {s : Ts} (h : s.len = 2) : ∃ a b, s = .sub a (.sub b .nil) := by
  cases s with
  | nil => simp [Ts.len] at h
  | sub a r =>
    cases r with
    | nil => simp [Ts.len] at h
    | sub b r =>
      cases r with
      | nil => exact ⟨a, b, rfl⟩
      | sub _ _ => simp [Ts.len] at h
theorem Ts.rs_len : ∀ s : Ts, s.rs.len = s.len
  | .nil => rfl
  | .sub l r => by rw [Ts.rs, Rs.len, Ts.len, Ts.rs_len r]
mutual
/-- the lists' capacities -/
def Tf.Cap (v : World) : Tf → Nat → Nat → Prop
  | .nil, _, _ => True
  | .node _ _ _ s r, b, o => (∀ p c, v.cell? ⟨b, o + 3, none⟩ = some (.slice p s.len c) → s.len ≤ c ∧ ∀ b' o', p = some ⟨b', o', none⟩ → Ts.Cap v s b' o') ∧ Tf.Cap v r b (o + 4)
def Ts.Cap (v : World) : Ts → Nat → Nat → Prop
  | .nil, _, _ => True
  | .sub l r, b, o => (∀ p c, v.cell? ⟨b, o, none⟩ = some (.slice p l.len c) → ∀ b' o', p = some ⟨b', o', none⟩ → Tf.Cap v l b' o') ∧ Ts.Cap v r b (o + 1)
end
mutual
theorem Tf.Cap.congr {v v' : World} (h : ∀ b o, v'.cell? ⟨b, o, none⟩ = v.cell? ⟨b, o, none⟩) : ∀ (l : Tf) (b o : Nat), Tf.Cap v l b o → Tf.Cap v' l b o
  | .nil, _, _, _ => trivial
  | .node k ls t s r, b, o, hc => ⟨fun p c e => by
      have := hc.1 p c ((h _ _).symm.trans e)
      exact ⟨this.1, fun b' o' e' => Ts.Cap.congr h s b' o' (this.2 b' o' e')⟩, Tf.Cap.congr h r b (o + 4) hc.2⟩
theorem Ts.Cap.congr {v v' : World} (h : ∀ b o, v'.cell? ⟨b, o, none⟩ = v.cell? ⟨b, o, none⟩) : ∀ (l : Ts) (b o : Nat), Ts.Cap v l b o → Ts.Cap v' l b o
  | .nil, _, _, _ => trivial
  | .sub l r, b, o, hc => ⟨fun p c e b' o' e' => Tf.Cap.congr h l b' o' (hc.1 p c ((h _ _).symm.trans e) b' o' e'), Ts.Cap.congr h r b (o + 1) hc.2⟩
end
theorem cutN_cell {N : Nat} {w w' : World} (h : Below N w w') (b o : Nat) : (cutN N w').cell? ⟨b, o, none⟩ = (cutN N w).cell? ⟨b, o, none⟩ := by
  simp only [cutN, cell_cut]
  by_cases hb : b < N
  · rw [if_pos (by simpa using hb), if_pos (by simpa using hb)]; exact h.cell hb
  · rw [if_neg (by simpa using hb), if_neg (by simpa using hb)]
def RecTo (n : Nat) : Prop := ∀ t : Tf, t.size < n → t.size ≤ 1073741824 → t.rok → ∀ (p : Option Addr) (c N : Nat) (w : World), t.In w N p → N ≤ w.heap.size → (∀ b o, p = some ⟨b, o, none⟩ → t.Cap (cutN N w) b o) →
    Calls Try.prog 25 #[.slice p t.len c] w fun e w' => ∃ q d, e = .returned (.slice q t.len d) ∧ Below w.heap.size w w' ∧ NewN N w.heap.size w' fun u M => Sl M q t.rc.len (Rc.At u M t.rc)
/-- where lists of terms lie that came in -/
structure SubIn (v : World) (N : Nat) (sl : Ts) (q : Option Addr) (b o : Nat) : Prop where
  a : 0 < sl.len → q = some ⟨b, o, none⟩ ∧ b < N
  h : sl.len = 0 ∨ sl.At v N b o
theorem subIn_of {v : World} {N : Nat} {sl : Ts} {q : Option Addr} (h : Sl N q sl.len (Ts.At v N sl)) : ∃ b o, SubIn v N sl q b o := by
  rcases h.2 with h0 | ⟨b, o, rfl, hb, ha⟩
  · exact ⟨0, 0, fun h => by omega, .inl h0⟩
  · exact ⟨b, o, fun _ => ⟨rfl, hb⟩, .inr ha⟩
/-- what stands still while a list's lists are made ready -/
structure Fr (Wb wx : World) (G s : Nat) : Prop where
  size : Wb.heap.size ≤ wx.heap.size
  block : ∀ i, i < Wb.heap.size → i ≠ G → wx.heap[i]? = Wb.heap[i]?
  cell : ∀ j, j ≠ s → wx.cell? ⟨G, j, none⟩ = Wb.cell? ⟨G, j, none⟩
theorem RA.fr {w Wb wx : World} {N G n s : Nat} {ds : Rc} (h : RA w Wb N G n ds) (hF : Fr Wb wx G s) (hB : Below w.heap.size w wx) (hz : ∀ j, wx.frozen? ⟨G, j, none⟩ = false) (hs : ds.len * 9 ≤ s) (he : ∃ u, wx.cell? ⟨G, s, none⟩ = some u) : RA w wx N G n ds := by
  obtain ⟨h1, hN, h2, h3, h4, ⟨news, S, n1, n2, n3, n4⟩⟩ := h
  have hf := hF.size
  refine ⟨hB, hN, ⟨h2.1, by omega⟩, fun j hj => ?_, hz, news, S, n1, Rc.Cells.le (Le.cut2 fun b hb => ⟨hb, fun o v hv => ?_⟩) hf ds news n2, fun j u hu => ?_, fun i hi => ?_⟩
  · by_cases e : j = s
    · rw [e]; exact he
    · obtain ⟨u, hu⟩ := h3 j hj
      exact ⟨u, (hF.cell j e).trans hu⟩
  · have := hF.block b (by have := h1.size; rcases n4 b hb with h | h <;> omega) (by rcases n4 b hb with h | h <;> omega)
    simp only [World.cell?] at hv ⊢
    rw [this]; exact hv
  · have hlt : j < news.length := (List.getElem?_eq_some_iff.1 hu).1
    exact (hF.cell j (by omega)).trans (n3 j u hu)
  · rcases n4 i hi with h | h
    · exact .inl h
    · exact .inr ⟨h.1, by omega⟩
set_option maxRecDepth 100000 in
set_option maxHeartbeats 12800000 in
theorem rec_step (n : Nat) (ih : RecTo n) : RecTo (n + 1) := by
  intro t hsz hbig hok p c N w h hN hcap
  obtain ⟨Z, hmk, hZ⟩ := make_recs t.len (Nat.le_trans (Tf.len_size t) hbig)
  have hmk' := hmk w
  obtain ⟨W0, hW0⟩ : ∃ W0, w.alloc (.cells Z 86 (0, 0)) = W0 := ⟨_, rfl⟩
  have hk0 : W0.heap[w.heap.size]? = some (.cells Z 86 (0, 0)) := by rw [← hW0]; exact heap_alloc_new w _
  have HRA0 := Lib.hid (show RA w W0 N w.heap.size t.len .nil from ⟨by rw [← hW0]; exact (Below.refl _ w).alloc (Nat.le_refl _) _, hN, ⟨Nat.le_refl _, lt_blk hk0⟩, fun j hj => ⟨_, cell_blk hk0 (Array.getElem?_eq_getElem (show j < Z.size by omega))⟩, fun j => by simp [World.frozen?, hk0], [], fun _ => false, rfl, rfl, (fun j u hu => (by simp at hu)), fun _ h => by cases h⟩)
  rw [hW0] at hmk'
  obtain ⟨b, o, hp, hA⟩ : ∃ b o, (0 < t.len → p = some ⟨b, o, none⟩ ∧ b < N) ∧ (t.len = 0 ∨ t.At (cutN N w) N b o) := by
    rcases h.2 with h0 | ⟨b, o, rfl, hb, ha⟩
    · exact ⟨0, 0, fun h => by omega, .inl h0⟩
    · exact ⟨b, o, fun _ => ⟨rfl, hb⟩, .inr (Tf.At.cutN t b o hb ha)⟩
  have htl : t.len ≤ 1073741824 := Nat.le_trans (Tf.len_size t) hbig
  have HCp := Lib.hid (show t.len = 0 ∨ t.Cap (cutN N w) b o from by
    by_cases h0 : t.len = 0
    · exact .inl h0
    · exact .inr (hcap b o (hp (by omega)).1))
  clear hcap
  have Hp := Lib.hid hp
  have HA := Lib.hid hA
  have HNw := Lib.hid hN
  have HS := Lib.hid (And.intro hok (And.intro hsz hbig))
  have IH := Lib.hid ih
  clear h hp hA hN hok hsz hbig hmk hZ hk0 hW0 ih
  go_enter Try.func25, Try.ntmps25
  go_wp2_with fail
  clear hmk'
  go_loopw [14] (fun i wr => ∃ (k : Nat) (rs : Tf) (ds : Rc), i = .int .i64 k ∧ k + rs.len = t.len ∧ Hid (ds.cat rs.rc = t.rc) ∧ Hid (ds.len = k) ∧ Hid (rs.len = 0 ∨ rs.At (cutN N w) N b (o + k * 4)) ∧ Hid (rs.len = 0 ∨ rs.Cap (cutN N w) b (o + k * 4)) ∧ Hid (rs.rok ∧ rs.size < n + 1 ∧ rs.size ≤ 1073741824) ∧ Hid (RA w wr N w.heap.size t.len ds)) (fun i _ => t.len - (intOf i).toNat)
  case atStart => exact ⟨0, t, .nil, rfl, by simp, Lib.hid rfl, Lib.hid rfl, by simpa using HA, by simpa using HCp, HS, HRA0⟩
  case round =>
    clear HRA0
    obtain ⟨k, rs, ds, rfl, hk, hE, hD, hAt, hCa, hF, hRA⟩ := hrel
    obtain ⟨wi, rfl⟩ : ∃ wi : World, wi = wr := ⟨_, rfl⟩
    cases rs with
    | nil =>
      simp only [Tf.len, Nat.add_zero] at hk
      have hge : ¬ k < t.len := by omega
      have hds : ds = t.rc := by have := hE.out; rwa [show Tf.rc .nil = .nil from rfl, Rc.cat_nil] at this
      subst hds
      have HZ := Lib.hid (RA.end (by rw [Tf.rc_len]; exact hRA.out) (by rw [Tf.rc_len]; omega))
      clear hE hAt hF
      go_wp2_with fail
      go_ret
      exact ⟨_, _, rfl, HZ.out⟩
    | node kk ls tt ss r =>
      simp only [Tf.len] at hk
      have hlt : k < t.len := by omega
      obtain ⟨rfl, hbN⟩ := Hp.out (by omega)
      have ha : (Tf.node kk ls tt ss r).At (cutN N w) N b (o + k * 4) := by
        rcases hAt.out with e | e
        · simp [Tf.len] at e
        · exact e
      obtain ⟨h0, ⟨p1, c1, h1, s1⟩, h2, ⟨q2, d2, h3, s3⟩, h4⟩ := ha
      have hle : Le (cutN N w) wi := fun b o v hv => by
        obtain ⟨e1, e2⟩ := cell_cut_some hv
        have hb : b < N := by simpa using e1
        exact (hRA.out.bel.cell (Nat.lt_of_lt_of_le hb HNw.out)).trans e2
      have x0 := hle _ _ _ h0
      have x1 := hle _ _ _ h1
      have x2 := hle _ _ _ h2
      have x3 := hle _ _ _ h3
      have hca : (Tf.node kk ls tt ss r).Cap (cutN N w) b (o + k * 4) := by
        rcases hCa.out with e | e
        · simp [Tf.len] at e
        · exact e
      obtain ⟨hcd, hcs⟩ := hca.1 q2 d2 h3
      have HCr := Lib.hid (show r.len = 0 ∨ r.Cap (cutN N w) b (o + (k + 1) * 4) from .inr (by rw [show o + (k + 1) * 4 = o + k * 4 + 4 by omega]; exact hca.2))
      obtain ⟨bq, oq, hsub⟩ := subIn_of s3
      have Hsc := Lib.hid (show ss.len ≤ d2 ∧ (ss.len = 0 ∨ ss.Cap (cutN N w) bq oq) from ⟨hcd, by
        by_cases h0 : ss.len = 0
        · exact .inl h0
        · exact .inr (hcs bq oq (hsub.a (by omega)).1)⟩)
      clear hca hcd hcs hCa
      obtain ⟨W1, hW1⟩ : ∃ W1, wi.alloc (.cells #[.int .i64 kk, .slice p1 ls.length c1, .bool tt, .slice q2 ss.len d2] 37 (0, 0)) = W1 := ⟨_, rfl⟩
      have HW1 := Lib.hid hW1
      have hA1 : Below wi.heap.size wi W1 := by rw [← hW1]; exact (Below.refl _ wi).alloc (Nat.le_refl _) _
      have HT1 := Lib.hid (show W1.heap[wi.heap.size]? = some (.cells #[.int .i64 kk, .slice p1 ls.length c1, .bool tt, .slice q2 ss.len d2] 37 (0, 0)) by rw [← hW1]; exact heap_alloc_new wi _)
      have HRA1 := Lib.hid (hRA.out.later hA1)
      have HTG := Lib.hid (show w.heap.size < wi.heap.size from hRA.out.hG.2)
      have hN1 : N ≤ W1.heap.size := Nat.le_trans HNw.out HRA1.out.bel.size
      have HLo := Lib.hid (linesOf_any ls p1 c1 N W1.drew (s1.imp' (Nat.le_refl _) fun b o ha => Plines.le (hle.trans fun b o v hv => (hA1.drew.cell (World.block_lt_of_cell? _ _ hv)).trans hv) (Nat.le_refl _) ls b o ha) hN1 (by have := hF.out.1.1.1; omega))
      have Hs1 := Lib.hid s1
      have Hsub := Lib.hid hsub
      have HR4 := Lib.hid (show r.len = 0 ∨ r.At (cutN N w) N b (o + (k + 1) * 4) from .inr (by rw [show o + (k + 1) * 4 = o + k * 4 + 4 by omega]; exact h4))
      have Hk := Lib.hid hk
      clear h0 h1 h2 h3 h4 s1 s3 hle hsub hW1 hA1 hN1 hk hAt hRA
      go_wp2_with fail
      rw [HW1.out]
      clear HW1 x0 x1 x2 x3
      refine bgk 11 (fun W => W.cell? ⟨wi.heap.size, 0, none⟩ = some (.int .i64 kk) ∧ W.cell? ⟨wi.heap.size, 2, none⟩ = some (.bool tt) ∧ W.cell? ⟨wi.heap.size, 1, none⟩ = some (.slice p1 ls.length c1)) (⟨cell_blk HT1.out rfl, cell_blk HT1.out rfl, cell_blk HT1.out rfl⟩) (fun hHeld => ?_)
      refine tk0 0 ?_ rfl (.inl ⟨by rfl, ?_⟩) ?_
      rotate_left
      · (intro w hSw; (try dsimp only at hSw); go_simp; try with_reducible rfl)
      try simp only [Act.put, List.setIfInBounds_toArray, List.set_cons_zero, List.set_cons_succ]
      refine tk0 1 ?_ rfl (.inl ⟨by rfl, ?_⟩) ?_
      rotate_left
      · (intro w hSw; (try dsimp only at hSw); go_simp; try with_reducible rfl)
      try simp only [Act.put, List.setIfInBounds_toArray, List.set_cons_zero, List.set_cons_succ]
      refine tk0 2 ?_ rfl (.inl ⟨by rfl, ?_⟩) ?_
      rotate_left
      · (intro w hSw; (try dsimp only at hSw); go_simp; try with_reducible rfl)
      try simp only [Act.put, List.setIfInBounds_toArray, List.set_cons_zero, List.set_cons_succ]
      refine tkl 3 ?_ rfl (.inl ⟨by rfl, ?_⟩) ?_
      rotate_left
      · (intro w hSw; (try dsimp only at hSw); go_simp; try with_reducible rfl)
      try simp only [Act.put, List.setIfInBounds_toArray, List.set_cons_zero, List.set_cons_succ]
      refine tk0 4 ?_ rfl (.inl ⟨by rfl, ?_⟩) ?_
      rotate_left
      · (intro w hSw; (try dsimp only at hSw); go_simp; try with_reducible rfl)
      try simp only [Act.put, List.setIfInBounds_toArray, List.set_cons_zero, List.set_cons_succ]
      refine tkl 5 ?_ rfl (.inl ⟨by rfl, ?_⟩) ?_
      rotate_left
      · (intro w hSw; (try dsimp only at hSw); go_simp; try with_reducible rfl)
      try simp only [Act.put, List.setIfInBounds_toArray, List.set_cons_zero, List.set_cons_succ]
      refine tk0 6 ?_ rfl (.inl ⟨by rfl, ?_⟩) ?_
      rotate_left
      · (intro w hSw; (try dsimp only at hSw); go_simp; try with_reducible rfl)
      try simp only [Act.put, List.setIfInBounds_toArray, List.set_cons_zero, List.set_cons_succ]
      refine tkl 7 ?_ rfl (.inl ⟨by rfl, ?_⟩) ?_
      rotate_left
      · (intro w hSw; (try dsimp only at hSw); go_simp; try with_reducible rfl)
      try simp only [Act.put, List.setIfInBounds_toArray, List.set_cons_zero, List.set_cons_succ]
      refine rdk 8 rfl (fun K hK => ?_)
      go_simp
      refine HLo.out.mono ?_
      rintro e w2 ⟨rfl, hB2⟩
      have hB2 : Below W1.heap.size W1 w2 := (Below.refl W1.heap.size W1).drew.trans hB2
      have hT2 := (hB2.block wi.heap.size (lt_blk HT1.out)).trans HT1.out
      have HT2 := Lib.hid hT2
      have HRA2 := Lib.hid (HRA1.out.later hB2)
      have HB2 := Lib.hid hB2
      clear hB2 hT2
      refine hK.out _ _ ?_ (fun hHeld => ?_)
      · exact ⟨cell_blk HT2.out rfl, cell_blk HT2.out rfl, cell_blk HT2.out rfl⟩
      clear hK K
      try simp only [Act.put, List.setIfInBounds_toArray, List.set_cons_zero, List.set_cons_succ]
      refine tk0 9 ?_ rfl (.inl ⟨by rfl, ?_⟩) ?_
      rotate_left
      · (intro w hSw; (try dsimp only at hSw); go_simp; try with_reducible rfl)
      try simp only [Act.put, List.setIfInBounds_toArray, List.set_cons_zero, List.set_cons_succ]
      refine tk0 10 ?_ rfl (.inl ⟨by rfl, ?_⟩) ?_
      rotate_left
      · (intro w hSw; (try dsimp only at hSw); go_simp; try with_reducible rfl)
      try simp only [Act.put, List.setIfInBounds_toArray, List.set_cons_zero, List.set_cons_succ]
      refine rdb 11 rfl (fun K hK => ?_)
      obtain ⟨y0, e0⟩ := HRA2.out.ex (k * 9) (by omega)
      obtain ⟨y1, e1⟩ := HRA2.out.ex (k * 9 + 1) (by omega)
      obtain ⟨y2, e2⟩ := HRA2.out.ex (k * 9 + 2) (by omega)
      obtain ⟨y3, e3⟩ := HRA2.out.ex (k * 9 + 3) (by omega)
      obtain ⟨y4, e4⟩ := HRA2.out.ex (k * 9 + 4) (by omega)
      obtain ⟨y5, e5⟩ := HRA2.out.ex (k * 9 + 5) (by omega)
      obtain ⟨y6, e6⟩ := HRA2.out.ex (k * 9 + 6) (by omega)
      obtain ⟨y7, e7⟩ := HRA2.out.ex (k * 9 + 7) (by omega)
      obtain ⟨y8, e8⟩ := HRA2.out.ex (k * 9 + 8) (by omega)
      have z := HRA2.out.fz
      have f0 := z (k * 9)
      have f1 := z (k * 9 + 1)
      have f2 := z (k * 9 + 2)
      have f3 := z (k * 9 + 3)
      have f4 := z (k * 9 + 4)
      have f5 := z (k * 9 + 5)
      have f6 := z (k * 9 + 6)
      have f7 := z (k * 9 + 7)
      have f8 := z (k * 9 + 8)
      clear z
      go_simp
      refine hK.out _ _ ?_
      clear e0 e1 e2 e3 e4 e5 e6 e7 e8 f0 f1 f2 f3 f4 f5 f6 f7 f8
      clear hK K
      try simp only [Act.put, List.setIfInBounds_toArray, List.set_cons_zero, List.set_cons_succ]
      refine dnk ?_ (by kernel_rfl) _
      have hN3s := HRA2.out.bel.size
      obtain ⟨W3, hW3⟩ : ∃ W3, (((((((((w2.setCell ⟨w.heap.size, k * 9, none⟩ (.int .i64 kk)).setCell ⟨w.heap.size, k * 9 + 1, none⟩ (.bool tt)).setCell ⟨w.heap.size, k * 9 + 2, none⟩ (.slice p1 ls.length c1)).setCell ⟨w.heap.size, k * 9 + 3, none⟩ (.int .i64 (greatestL ls))).setCell ⟨w.heap.size, k * 9 + 4, none⟩ (.int .i64 (linesW ls))).setCell ⟨w.heap.size, k * 9 + 5, none⟩ (.slice none 0 0)).setCell ⟨w.heap.size, k * 9 + 6, none⟩ (.int .i64 0)).setCell ⟨w.heap.size, k * 9 + 7, none⟩ (.int .i64 0)).setCell ⟨w.heap.size, k * 9 + 8, none⟩ (.slice none 0 0)) = W3 := ⟨_, rfl⟩
      rw [hW3]
      have hW3' : setList w2 w.heap.size (k * 9) [.int .i64 kk, .bool tt, .slice p1 ls.length c1, .int .i64 (greatestL ls), .int .i64 (linesW ls), .slice none 0 0, .int .i64 0, .int .i64 0, .slice none 0 0] = W3 := hW3
      have HRA3 := Lib.hid (show RA w W3 N w.heap.size t.len ds by rw [← hW3']; exact RA.puts _ _ _ HRA2.out (by rw [hD.out]; omega))
      have HC3 := Lib.hid (show ∀ j v, ([.int .i64 kk, .bool tt, .slice p1 ls.length c1, .int .i64 (greatestL ls), .int .i64 (linesW ls), .slice none 0 0, .int .i64 0, .int .i64 0, .slice none 0 0] : List Value)[j]? = some v → W3.cell? ⟨w.heap.size, k * 9 + j, none⟩ = some v by rw [← hW3']; exact setList_same _ _ _ (fun j hj => HRA2.out.ex (k * 9 + j) (by simp at hj; omega)))
      have HT3 := Lib.hid (show W3.heap[wi.heap.size]? = some (.cells #[.int .i64 kk, .slice p1 ls.length c1, .bool tt, .slice q2 ss.len d2] 37 (0, 0)) by rw [← hW3', setList_block (by have := HTG.out; omega)]; exact HT2.out)
      clear hW3 hW3' HRA2 HT2 HB2 HT1 HRA1 HLo hN3s hHeld
      have x3 : W3.cell? ⟨wi.heap.size, 3, none⟩ = some (.slice q2 ss.len d2) := cell_blk HT3.out rfl
      have x0 : W3.cell? ⟨wi.heap.size, 0, none⟩ = some (.int .i64 kk) := cell_blk HT3.out rfl
      have HFn := Lib.hid (show r.rok ∧ r.size < n + 1 ∧ r.size ≤ 1073741824 from ⟨hF.out.1.2.2, by have := hF.out.2.1; simp only [Tf.size] at this; omega, by have := hF.out.2.2; simp only [Tf.size] at this; omega⟩)
      have hfs : ss.rok ∧ ss.size ≤ n ∧ ss.size ≤ 1073741824 := ⟨hF.out.1.2.1, by have := hF.out.2.1; simp only [Tf.size] at this; omega, by have := hF.out.2.2; simp only [Tf.size] at this; omega⟩
      have hsn : ss.len ≤ 1073741824 := Nat.le_trans (Ts.len_size ss) hfs.2.2
      by_cases hk7 : kk = 7
      · subst hk7
        obtain ⟨sA, sB, rfl⟩ := Ts.two (hF.out.1.1.2 rfl).1
        have hlw : linesW sB.lines ≤ 1048576 := (hF.out.1.1.2 rfl).2
        obtain ⟨rfl, hbq⟩ := Hsub.out.a (by simp [Ts.len])
        have hat : (Ts.sub sA (.sub sB .nil)).At (cutN N w) N bq oq := by
          rcases Hsub.out.h with e | e
          · simp [Ts.len] at e
          · exact e
        have hcl : (Ts.sub sA (.sub sB .nil)).Cap (cutN N w) bq oq := by
          rcases Hsc.out.2 with e | e
          · simp [Ts.len] at e
          · exact e
        obtain ⟨⟨pa, ca, ha1, sa1⟩, ⟨pc, cc, hc1, sc1⟩, _⟩ := hat
        have hNW : N ≤ W3.heap.size := Nat.le_trans HNw.out HRA3.out.bel.size
        have hle3 : Le (cutN N w) W3 := fun b o v hv => by
          obtain ⟨e1, e2⟩ := cell_cut_some hv
          have hb : b < N := by simpa using e1
          exact (HRA3.out.bel.cell (Nat.lt_of_lt_of_le hb HNw.out)).trans e2
        have xc := hle3 _ _ _ hc1
        have HAL := Lib.hid (allLines_any sB pc cc N W3 (sc1.imp' (Nat.le_refl _) fun b o ha => Tf.At.le hle3 (Nat.le_refl _) sB b o ha) hNW (by have := linesW_len sB.lines; omega))
        have Hrc := Lib.hid (show (ds.cat (.node 7 tt ls sB.lines (Ts.sub sA .nil).rs .nil)).cat r.rc = t.rc by rw [← hE.out, Rc.cat_assoc]; simp [Tf.rc, Rc.cat, Ts.behind, Ts.rs, Rs.take1])
        have HFl := Lib.hid (show (Ts.sub sA .nil).rok ∧ (Ts.sub sA .nil).size ≤ n ∧ (Ts.sub sA .nil).size ≤ 1073741824 from ⟨⟨hfs.1.1, trivial⟩, by have := hfs.2.1; simp only [Ts.size] at this ⊢; omega, by have := hfs.2.2; simp only [Ts.size] at this ⊢; omega⟩)
        have Hgs := Lib.hid (show (7 : Int) = 7 → greatestL sB.lines = greatestL sB.lines ∧ (linesW sB.lines : Int) = (linesW sB.lines : Nat) from fun _ => ⟨rfl, rfl⟩)
        have Hsl := Lib.hid (show SubIn (cutN N w) N (.sub sA .nil) (some ⟨bq, oq, none⟩) bq oq from ⟨fun _ => ⟨rfl, hbq⟩, .inr ⟨⟨pa, ca, ha1, sa1⟩, trivial⟩⟩)
        have HslC := Lib.hid (show (Ts.sub sA .nil).len = 0 ∨ (Ts.sub sA .nil).Cap (cutN N w) bq oq from .inr ⟨hcl.1, trivial⟩)
        have hd2 : 2 ≤ d2 := by have := Hsc.out.1; simpa [Ts.len] using this
        have HNW := Lib.hid hNW
        have Hlw := Lib.hid hlw
        replace x3 : W3.cell? ⟨wi.heap.size, 3, none⟩ = some (.slice (some ⟨bq, oq, none⟩) 2 d2) := x3
        clear hfs hsn hle3 hcl ha1 sa1 hc1 sc1 hNW hlw
        go_wp2_with fail
        refine HAL.out.mono ?_
        rintro e w4 ⟨q4, d4, rfl, hB4, hN4⟩
        have HLo2 := Lib.hid (linesOf_any sB.lines q4 d4 w4.heap.size w4 (by obtain ⟨S4, h41, _⟩ := hN4; exact h41.imp' (Nat.le_refl _) fun b o ha => Plines.le (Le.cut S4 w4) (Nat.le_refl _) sB.lines b o ha) (Nat.le_refl _) (by have := Hlw.out; omega))
        have HB4 := Lib.hid hB4
        have HN4 := Lib.hid hN4
        clear hB4 hN4 x0 x3 xc HAL
        go_wp2_with fail
        refine HLo2.out.mono ?_
        rintro e w5 ⟨rfl, hB5⟩
        have hB35 : Below W3.heap.size W3 w5 := HB4.out.trans (hB5.mono HB4.out.size)
        have HRA5 := Lib.hid (HRA3.out.later hB35)
        have HB35 := Lib.hid hB35
        have HN5 := Lib.hid (HN4.out.later (fun _ _ _ _ h hl hm => Sl.imp' h hm fun b o ha => Plines.le hl hm sB.lines b o ha) (Nat.le_trans HNW.out HB4.out.size) hB5)
        obtain ⟨y5, e5⟩ := HRA5.out.ex (k * 9 + 5) (by omega)
        obtain ⟨y6, e6⟩ := HRA5.out.ex (k * 9 + 6) (by omega)
        obtain ⟨y7, e7⟩ := HRA5.out.ex (k * 9 + 7) (by omega)
        have f5 := HRA5.out.fz (k * 9 + 5)
        have f6 := HRA5.out.fz (k * 9 + 6)
        have f7 := HRA5.out.fz (k * 9 + 7)
        clear hB5 hB35 HLo2
        go_wp2_with fail
        clear e5 e6 e7 f5 f6 f7
        obtain ⟨Wb, hWb⟩ : ∃ Wb, (((w5.setCell ⟨w.heap.size, k * 9 + 5, none⟩ (.slice q4 sB.lines.length d4)).setCell ⟨w.heap.size, k * 9 + 6, none⟩ (.int .i64 (greatestL sB.lines))).setCell ⟨w.heap.size, k * 9 + 7, none⟩ (.int .i64 (linesW sB.lines))) = Wb := ⟨_, rfl⟩
        rw [hWb]
        have hWb' : setList w5 w.heap.size (k * 9 + 5) [.slice q4 sB.lines.length d4, .int .i64 (greatestL sB.lines), .int .i64 (linesW sB.lines)] = Wb := hWb
        have HRAb := Lib.hid (show RA w Wb N w.heap.size t.len ds by rw [← hWb']; exact RA.puts _ _ _ HRA5.out (by rw [hD.out]; omega))
        have hsb : Wb.heap.size = w5.heap.size := by rw [← hWb']; exact setList_size _ _ _ _
        have HGb := Lib.hid HRAb.out.hG.2
        have HNb := Lib.hid (Nat.le_trans HNw.out (Nat.le_of_lt HGb.out))
        have HCb := Lib.hid (show ∀ j v, ([.int .i64 7, .bool tt, .slice p1 ls.length c1, .int .i64 (greatestL ls), .int .i64 (linesW ls), .slice q4 sB.lines.length d4, .int .i64 (greatestL sB.lines), .int .i64 (linesW sB.lines), .slice none 0 0] : List Value)[j]? = some v → Wb.cell? ⟨w.heap.size, k * 9 + j, none⟩ = some v from fun j v hv => by
          have hold : ∀ j v, ([.int .i64 7, .bool tt, .slice p1 ls.length c1, .int .i64 (greatestL ls), .int .i64 (linesW ls), .slice none 0 0, .int .i64 0, .int .i64 0, .slice none 0 0] : List Value)[j]? = some v → w5.cell? ⟨w.heap.size, k * 9 + j, none⟩ = some v := fun j v hv => (HB35.out.cell (p := ⟨w.heap.size, k * 9 + j, none⟩) HRA3.out.hG.2).trans (HC3.out j v hv)
          have hother : ∀ j v, ([.int .i64 7, .bool tt, .slice p1 ls.length c1, .int .i64 (greatestL ls), .int .i64 (linesW ls), .slice none 0 0, .int .i64 0, .int .i64 0, .slice none 0 0] : List Value)[j]? = some v → (j < 5 ∨ 8 ≤ j) → Wb.cell? ⟨w.heap.size, k * 9 + j, none⟩ = some v := fun j v hv hj => by
            rw [← hWb', setList_other _ _ _ (by simp only [List.length_cons, List.length_nil]; omega)]; exact hold j v hv
          have hnew : ∀ j v, ([.slice q4 sB.lines.length d4, .int .i64 (greatestL sB.lines), .int .i64 (linesW sB.lines)] : List Value)[j]? = some v → Wb.cell? ⟨w.heap.size, k * 9 + 5 + j, none⟩ = some v := fun j v hv => by
            rw [← hWb']; exact setList_same _ _ _ (fun j hj => by have := HRA5.out.ex (k * 9 + 5 + j) (by simp at hj; omega); exact this) j v hv
          rcases j with _ | _ | _ | _ | _ | _ | _ | _ | _ | j
          · exact hother 0 v hv (by decide)
          · exact hother 1 v hv (by decide)
          · exact hother 2 v hv (by decide)
          · exact hother 3 v hv (by decide)
          · exact hother 4 v hv (by decide)
          · exact hnew 0 v hv
          · exact hnew 1 v hv
          · exact hnew 2 v hv
          · exact hother 8 v hv (by decide)
          · simp at hv)
        have HBl := Lib.hid (show ∃ Tb : Nat → Bool, Sl Wb.heap.size q4 sB.lines.length (Plines (cut Tb Wb) Wb.heap.size sB.lines) ∧ ∀ i, Tb i = true → i < N ∨ (w.heap.size < i ∧ i < Wb.heap.size) by
          obtain ⟨S5, h51, h52⟩ := HN5.out
          refine ⟨S5, h51.imp' (Nat.le_of_eq hsb.symm) fun b o ha => Plines.le (Le.cut2 fun i hi => ⟨hi, fun o v hv => ?_⟩) (Nat.le_of_eq hsb.symm) sB.lines b o ha, fun i hi => ?_⟩
          · have := setList_block (G := w.heap.size) (i := i) (by have := HRA3.out.hG.2; have := HNw.out; rcases h52 i hi with h | h <;> omega) [.slice q4 sB.lines.length d4, .int .i64 (greatestL sB.lines), .int .i64 (linesW sB.lines)] w5 (k * 9 + 5)
            rw [hWb'] at this
            simp only [World.cell?] at hv ⊢
            rw [this]; exact hv
          · rcases h52 i hi with h | h
            · exact .inl h
            · exact .inr ⟨by have := HRA3.out.hG.2; omega, by omega⟩)
        clear hWb hWb' hsb HRA5 HB35 HN5 HB4 HN4 HC3 HRA3 HT3 Hsub Hsc
        go_loopw [48] (fun i wx => ∃ (j : Nat) (rs : Ts) (done : Rs) (qs : Option Addr) (cs : Nat), i = .int .i64 j ∧ j + rs.len = 1 ∧ Hid (done.cat rs.rs = (Ts.sub sA .nil).rs) ∧ Hid (done.len = j) ∧ Hid (rs.len = 0 ∨ rs.At (cutN N w) N bq (oq + j)) ∧ Hid (rs.len = 0 ∨ rs.Cap (cutN N w) bq (oq + j)) ∧ Hid (rs.rok ∧ rs.size ≤ n ∧ rs.size ≤ 1073741824) ∧ Hid (Below w.heap.size w wx ∧ ∀ j, wx.frozen? ⟨w.heap.size, j, none⟩ = false) ∧ Hid (wx.cell? ⟨w.heap.size, k * 9 + 8, none⟩ = some (.slice qs j cs)) ∧ Hid (OutR wx Wb.heap.size N (.slice qs j cs) done) ∧ Hid (Fr Wb wx w.heap.size (k * 9 + 8))) (fun i _ => 1 - (intOf i).toNat)
        case atStart => exact ⟨0, Ts.sub sA .nil, .nil, none, 0, rfl, by simp [Ts.len], Lib.hid rfl, Lib.hid rfl, by simpa using Lib.hid Hsl.out.h, by simpa using HslC, HFl, Lib.hid ⟨HRAb.out.bel, HRAb.out.fz⟩, Lib.hid (HCb.out 8 _ rfl), Lib.hid (OutR.nil _ _ _), Lib.hid ⟨Nat.le_refl _, fun _ _ _ => rfl, fun _ _ => rfl⟩⟩
        case round =>
          obtain ⟨j, rs, done, qs, cs, rfl, hj, HEs, HDn, HAs, HCs, HFs, HBz, HC8, HO, HFr⟩ := hrel
          obtain ⟨wy, rfl⟩ : ∃ wy : World, wy = wr := ⟨_, rfl⟩
          have HRAy := Lib.hid (HRAb.out.fr HFr.out HBz.out.1 HBz.out.2 (by rw [hD.out]; omega) ⟨_, HC8.out⟩)
          have HNy0 := Lib.hid (Nat.le_trans HNw.out HRAy.out.bel.size)
          cases rs with
          | nil =>
            simp only [Ts.len, Nat.add_zero] at hj
            have hge2 : ¬ j < 1 := by omega
            have hdn : done = (Ts.sub sA .nil).rs := by have := HEs.out; rwa [show Ts.rs .nil = .nil from rfl, Rs.cat_nil] at this
            have HRA9 := Lib.hid (show RA w wy N w.heap.size t.len (ds.cat (.node 7 tt ls sB.lines (Ts.sub sA .nil).rs .nil)) by
              have hcb : ∀ jj v, ([.int .i64 7, .bool tt, .slice p1 ls.length c1, .int .i64 (greatestL ls), .int .i64 (linesW ls), .slice q4 sB.lines.length d4, .int .i64 (greatestL sB.lines), .int .i64 (linesW sB.lines), .slice none 0 0] : List Value)[jj]? = some v → jj ≠ 8 → wy.cell? ⟨w.heap.size, k * 9 + jj, none⟩ = some v := fun jj v hv hj8 => (HFr.out.cell _ (by omega)).trans (HCb.out jj v hv)
              obtain ⟨Tb, hb1, hb2⟩ := HBl.out
              obtain ⟨q9, c9, h9, Ts, hs1, hs2⟩ := HO.out.in (by rw [HDn.out]; omega)
              obtain ⟨rfl, hjl, rfl⟩ : qs = q9 ∧ j = done.len ∧ cs = c9 := by simpa using h9
              subst hdn
              refine RA.snoc (gi := greatestL sB.lines) (sz := (linesW sB.lines : Int)) (p := p1) (p' := q4) (q := qs) (c := c1) (c' := d4) (d := cs) HRAy.out ?_ ?_ ?_ ?_ ?_ ?_ ?_ ?_ ?_ (fun _ => ⟨rfl, rfl⟩) ⟨fun i => decide (i < N) || Tb i || Ts i, ⟨?_, ?_, ?_⟩, fun i hi => ?_⟩
              · rw [hD.out]; exact hcb 0 _ rfl (by decide)
              · rw [hD.out]; exact hcb 1 _ rfl (by decide)
              · rw [hD.out]; exact hcb 2 _ rfl (by decide)
              · rw [hD.out]; exact hcb 3 _ rfl (by decide)
              · rw [hD.out]; exact hcb 4 _ rfl (by decide)
              · rw [hD.out]; exact hcb 5 _ rfl (by decide)
              · rw [hD.out]; exact hcb 6 _ rfl (by decide)
              · rw [hD.out]; exact hcb 7 _ rfl (by decide)
              · rw [hD.out, ← hjl]; exact HC8.out
              · exact Hs1.out.imp' HNy0.out fun b o ha => Plines.le (le_cutN (HRAy.out.bel.mono HNw.out) fun i hi => by simp [hi]) HNy0.out ls b o ha
              · exact hb1.imp' HFr.out.size fun b o ha => Plines.le (Le.cut2 fun i hi => ⟨by simp [hi], fun o v hv => by
                  have := HFr.out.block i (by rcases hb2 i hi with h | h; (· have := HNb.out; omega); (· exact h.2)) (by rcases hb2 i hi with h | h; (· have := HNw.out; omega); (· omega))
                  simp only [World.cell?] at hv ⊢
                  rw [this]; exact hv⟩) HFr.out.size sB.lines b o ha
              · exact hs1.imp' (Nat.le_refl _) fun b o ha => Rs.At.le (Le.cut2 fun i hi => ⟨by simp [hi], fun _ _ h => h⟩) (Nat.le_refl _) _ b o ha
              · have hi' : i < N ∨ Tb i = true ∨ Ts i = true := by simpa [or_assoc] using hi
                rcases hi' with h | h | h
                · exact .inl h
                · rcases hb2 i h with h | h
                  · exact .inl h
                  · exact .inr ⟨h.1, Nat.lt_of_lt_of_le h.2 HFr.out.size⟩
                · rcases hs2 i h with h | h
                  · exact .inl h
                  · exact .inr ⟨by have := HGb.out; omega, h.2⟩)
            clear HEs HAs HCs HFs HRAy HC8 HO HFr hdn HBz
            go_wp2_with fail
            go_roundw
            case rel => exact ⟨k + 1, r, ds.cat (.node 7 tt ls sB.lines (Ts.sub sA .nil).rs .nil), by go_num, by have := Hk.out; omega, Hrc, Lib.hid (by rw [Rc.cat_len, hD.out]; rfl), HR4, HCr, HFn, HRA9⟩
            case measure => simp [intOf]; omega
          | sub l r2 =>
            simp only [Ts.len] at hj
            have hlt3 : j < 1 := by omega
            obtain ⟨hq2, hbq⟩ := Hsl.out.a (by simp [Ts.len])
            skip
            have hat : (Ts.sub l r2).At (cutN N w) N bq (oq + j) := by
              rcases HAs.out with e | e
              · simp [Ts.len] at e
              · exact e
            obtain ⟨⟨ps, cs9, h1, s1⟩, h4⟩ := hat
            have hcl : (Ts.sub l r2).Cap (cutN N w) bq (oq + j) := by
              rcases HCs.out with e | e
              · simp [Ts.len] at e
              · exact e
            have HC2 := Lib.hid (show r2.len = 0 ∨ r2.Cap (cutN N w) bq (oq + (j + 1)) from .inr hcl.2)
            have hNy : N ≤ wy.heap.size := HNy0.out
            have hle : Le (cutN N w) wy := fun b o v hv => by
              obtain ⟨e1, e2⟩ := cell_cut_some hv
              have hb : b < N := by simpa using e1
              exact (HRAy.out.bel.cell (Nat.lt_of_lt_of_le hb HNw.out)).trans e2
            have xs := hle _ _ _ h1
            have HNy := Lib.hid hNy
            have HKr := Lib.hid (IH.out l (by have := HFs.out.2.1; simp only [Ts.size] at this; omega) (by have := HFs.out.2.2; simp only [Ts.size] at this; omega) HFs.out.1.1 ps cs9 N wy.drew (s1.imp' (Nat.le_refl _) fun b o ha => Tf.At.le (Le.trans (c := wy.drew) hle (fun b o v hv => hv)) (Nat.le_refl _) l b o ha) hNy (fun b' o' e => Tf.Cap.congr (fun b o => cutN_cell (HBz.out.1.mono HNw.out).drew b o) l b' o' (hcl.1 ps cs9 h1 b' o' e)))
            have HAt2 := Lib.hid (show r2.len = 0 ∨ r2.At (cutN N w) N bq (oq + (j + 1)) from .inr h4)
            have HF2 := Lib.hid (show r2.rok ∧ r2.size ≤ n ∧ r2.size ≤ 1073741824 from ⟨HFs.out.1.2, by have := HFs.out.2.1; simp only [Ts.size] at this; omega, by have := HFs.out.2.2; simp only [Ts.size] at this; omega⟩)
            have Hjn := Lib.hid (show j ≤ 1073741824 by have := HFl.out.2.2; have := Ts.len_size (Ts.sub sA .nil); simp [Ts.len] at this ⊢; omega)
            have Hj := Lib.hid hj
            clear h1 s1 h4 hNy hle hj HAs HFs hcl HCs
            go_wp2_with fail
            refine bgk 13 (fun W => W.cell? ⟨w.heap.size, k * 9 + 8, none⟩ = some (.slice qs j cs)) (HC8.out) (fun hHeld => ?_)
            refine tk0 0 ?_ rfl (.inl ⟨by rfl, ?_⟩) ?_
            rotate_left
            · (intro w hSw; (try dsimp only at hSw); go_simp; try with_reducible rfl)
            try simp only [Act.put, List.setIfInBounds_toArray, List.set_cons_zero, List.set_cons_succ]
            refine tk0 1 ?_ rfl (.inl ⟨by rfl, ?_⟩) ?_
            rotate_left
            · (intro w hSw; (try dsimp only at hSw); go_simp; try with_reducible rfl)
            try simp only [Act.put, List.setIfInBounds_toArray, List.set_cons_zero, List.set_cons_succ]
            refine tk0 2 ?_ rfl (.inl ⟨by rfl, ?_⟩) ?_
            rotate_left
            · (intro w hSw; (try dsimp only at hSw); go_simp; try with_reducible rfl)
            try simp only [Act.put, List.setIfInBounds_toArray, List.set_cons_zero, List.set_cons_succ]
            refine tk0 3 ?_ rfl (.inl ⟨by rfl, ?_⟩) ?_
            rotate_left
            · (intro w hSw; (try dsimp only at hSw); go_simp; try with_reducible rfl)
            try simp only [Act.put, List.setIfInBounds_toArray, List.set_cons_zero, List.set_cons_succ]
            refine tk0 4 ?_ rfl (.inl ⟨by rfl, ?_⟩) ?_
            rotate_left
            · (intro w hSw; (try dsimp only at hSw); go_simp; try with_reducible rfl)
            try simp only [Act.put, List.setIfInBounds_toArray, List.set_cons_zero, List.set_cons_succ]
            refine tk0 5 ?_ rfl (.inl ⟨by rfl, ?_⟩) ?_
            rotate_left
            · (intro w hSw; (try dsimp only at hSw); go_simp; try with_reducible rfl)
            try simp only [Act.put, List.setIfInBounds_toArray, List.set_cons_zero, List.set_cons_succ]
            refine tkl 6 ?_ rfl (.inl ⟨by rfl, ?_⟩) ?_
            rotate_left
            · (intro w hSw; (try dsimp only at hSw); go_simp; try with_reducible rfl)
            try simp only [Act.put, List.setIfInBounds_toArray, List.set_cons_zero, List.set_cons_succ]
            refine tk0 7 ?_ rfl (.inl ⟨by rfl, ?_⟩) ?_
            rotate_left
            · (intro w hSw; (try dsimp only at hSw); go_simp; try with_reducible rfl)
            try simp only [Act.put, List.setIfInBounds_toArray, List.set_cons_zero, List.set_cons_succ]
            refine rdk 8 rfl (fun K hK => ?_)
            go_simp
            refine HKr.out.mono ?_
            rintro e w3 ⟨qr, dr, rfl, hB3, hN3⟩
            have hB3 : Below wy.heap.size wy w3 := (Below.refl wy.heap.size wy).drew.trans hB3
            have HB3 := Lib.hid hB3
            have hOk := HO.out.keep (w' := w3) (fun i _ hi => hB3.block i hi) HNy.out hB3.size
            obtain ⟨qv, cv, w4, hrun, hO4, hgr⟩ := app_rs (d := dr) hOk (Nat.le_trans HFr.out.size hB3.size) HNb.out (show Wb.heap.size ≤ wy.drew.heap.size from HFr.out.size) (by have e := hN3; exact e) (fun g hg => (HO.out.lt hg).2) (by rw [HDn.out]; have := Hjn.out; omega) 84
            rw [HDn.out] at hrun hO4
            rw [Tf.rc_len] at hrun hgr
            have hA5 : Below w3.heap.size w3 (w3.alloc (.cells #[.slice qr l.len dr] 67 (0, 0))) := (Below.refl _ w3).alloc (Nat.le_refl _) _
            have hs5 := hA5.size
            have hown : ∀ i, (Value.slice qs j cs).ownBlock = some i → Wb.heap.size ≤ i := fun i h => (HO.out.lt h).1
            have hBy : Below wy.heap.size wy (w3.alloc (.cells #[.slice qr l.len dr] 67 (0, 0))) := hB3.trans (hA5.mono hB3.size)
            have hbl : ∀ i, i < Wb.heap.size → w4.heap[i]? = wy.heap[i]? := fun i hi => (hgr.block i (by have := HFr.out.size; have := hB3.size; omega) (fun e => by have := hown i e.symm; omega)).trans (hBy.block i (by have := HFr.out.size; omega))
            have hG4 : ∀ jj, w4.cell? ⟨w.heap.size, jj, none⟩ = wy.cell? ⟨w.heap.size, jj, none⟩ := fun jj => by simp only [World.cell?, hbl _ HGb.out]
            have hBw4 : Below Wb.heap.size wy w4 := (hBy.mono HFr.out.size).grown hgr (by have := HFr.out.size; have := hB3.size; omega) hown
            have HB4 := Lib.hid (show Below w.heap.size w w4 ∧ ∀ j, w4.frozen? ⟨w.heap.size, j, none⟩ = false from ⟨(HBz.out.1.trans (hBy.mono HBz.out.1.size)).grown hgr (by have := HBz.out.1.size; have := hBy.size; omega) (fun i h => by have := hown i h; have := HGb.out; omega), fun j => (World.frozen?_of_block (hbl _ HGb.out)).trans (HBz.out.2 j)⟩)
            have HRn := Lib.hid hrun
            have HG4 := Lib.hid hG4
            have HO4 := Lib.hid hO4
            have HF4 := Lib.hid (show Fr Wb w4 w.heap.size (k * 9 + 8) from ⟨Nat.le_trans HFr.out.size (Nat.le_trans hBy.size hgr.size), fun i h1 h2 => (hbl i h1).trans (HFr.out.block i h1 h2), fun jj hj => (hG4 jj).trans (HFr.out.cell jj hj)⟩)
            have hc3 : w3.cell? ⟨w.heap.size, k * 9 + 8, none⟩ = some (.slice qs j cs) := (hB3.cell (by have := HGb.out; have := HFr.out.size; show w.heap.size < wy.heap.size; omega)).trans HC8.out
            have hc5 : (w3.alloc (.cells #[.slice qr l.len dr] 67 (0, 0))).cell? ⟨w.heap.size, k * 9 + 8, none⟩ = some (.slice qs j cs) := (hBy.cell (by have := HGb.out; have := HFr.out.size; show w.heap.size < wy.heap.size; omega)).trans HC8.out
            clear hOk hown hBy hbl hBw4 hrun hO4 hgr hB3 hN3 hG4
            refine hK.out _ _ ?_ (fun hHeld => ?_)
            · exact hc3
            clear hK K
            try simp only [Act.put, List.setIfInBounds_toArray, List.set_cons_zero, List.set_cons_succ]
            refine rdk 9 rfl (fun K hK => ?_)
            go_simp
            refine hK.out _ _ ?_ (fun hHeld => ?_)
            · exact hc5
            clear hK K
            try simp only [Act.put, List.setIfInBounds_toArray, List.set_cons_zero, List.set_cons_succ]
            refine rdk 10 rfl (fun K hK => ?_)
            clear hA5 hs5
            refine stepK_app _ _ _ rfl rfl rfl rfl HRn.out ?_
            refine hK.out _ _ ?_ (fun hHeld => ?_)
            · exact (HG4.out _).trans HC8.out
            clear hK K
            try simp only [Act.put, List.setIfInBounds_toArray, List.set_cons_zero, List.set_cons_succ]
            refine tk0 11 ?_ rfl (.inl ⟨by rfl, ?_⟩) ?_
            rotate_left
            · (intro w hSw; (try dsimp only at hSw); go_simp; try with_reducible rfl)
            try simp only [Act.put, List.setIfInBounds_toArray, List.set_cons_zero, List.set_cons_succ]
            refine tk0 12 ?_ rfl (.inl ⟨by rfl, ?_⟩) ?_
            rotate_left
            · (intro w hSw; (try dsimp only at hSw); go_simp; try with_reducible rfl)
            try simp only [Act.put, List.setIfInBounds_toArray, List.set_cons_zero, List.set_cons_succ]
            refine rdb 13 rfl (fun K hK => ?_)
            have e8 : w4.cell? ⟨w.heap.size, k * 9 + 8, none⟩ = some (.slice qs j cs) := (HG4.out _).trans HC8.out
            have f8 : w4.frozen? ⟨w.heap.size, k * 9 + 8, none⟩ = false := HB4.out.2 _
            go_simp
            refine hK.out _ _ ?_
            have HCp := Lib.hid (show (w4.setCell ⟨w.heap.size, k * 9 + 8, none⟩ (.slice qv (j + 1) cv)).cell? ⟨w.heap.size, k * 9 + 8, none⟩ = some (.slice qv (j + 1) cv) from World.cell?_setCell_same _ _ _ e8)
            have HRp := Lib.hid (show Below w.heap.size w (w4.setCell ⟨w.heap.size, k * 9 + 8, none⟩ (.slice qv (j + 1) cv)) ∧ ∀ j9, (w4.setCell ⟨w.heap.size, k * 9 + 8, none⟩ (.slice qv (j + 1) cv)).frozen? ⟨w.heap.size, j9, none⟩ = false from ⟨HB4.out.1.setCell (p := ⟨w.heap.size, k * 9 + 8, none⟩) (Nat.le_refl _) _, fun j9 => (World.frozen?_setCells w.heap.size [_] (k * 9 + 8) w4 ⟨w.heap.size, j9, none⟩).trans (HB4.out.2 j9)⟩)
            have HOp := Lib.hid (show OutR (w4.setCell ⟨w.heap.size, k * 9 + 8, none⟩ (.slice qv (j + 1) cv)) Wb.heap.size N (.slice qv (j + 1) cv) (done.cat (.sub l.rc .nil)) from HO4.out.keep (fun i hi _ => Below.heap_setCell _ _ _ _ (by have := HGb.out; have := HNw.out; show i ≠ w.heap.size; omega)) (by have := HF4.out.size; have := HNb.out; omega) (by simp [World.setCell]))
            have HFp := Lib.hid (show Fr Wb (w4.setCell ⟨w.heap.size, k * 9 + 8, none⟩ (.slice qv (j + 1) cv)) w.heap.size (k * 9 + 8) from ⟨by have := HF4.out.size; simpa [World.setCell] using this, fun i h1 h2 => (Below.heap_setCell _ _ _ _ h2).trans (HF4.out.block i h1 h2), fun jj hj => (World.cell?_setCell_other _ _ _ _ (fun e => hj (by injection e with e e'; exact e'.symm))).trans (HF4.out.cell jj hj)⟩)
            clear e8 f8
            clear hK K
            try simp only [Act.put, List.setIfInBounds_toArray, List.set_cons_zero, List.set_cons_succ]
            refine dnk ?_ (by kernel_rfl) _
            have HEn := Lib.hid (show (done.cat (.sub l.rc .nil)).cat r2.rs = (Ts.sub sA .nil).rs by rw [Rs.cat_assoc]; exact HEs.out)
            clear HKr HEs HO HC8 HRAy HFr hc3 hc5 HBz
            go_wp2_with fail
            go_roundw
            case rel => exact ⟨j + 1, r2, done.cat (.sub l.rc .nil), qv, cv, by go_num, by have := Hj.out; omega, HEn, Lib.hid (by rw [Rs.cat_len, HDn.out]; rfl), HAt2, HC2, HF2, HRp, HCp, HOp, HFp⟩
            case measure => simp [intOf]; omega
      · have hk7' : (kk == 7) = false := by simpa using hk7
        have Hrc := Lib.hid (show (ds.cat (.node kk tt ls [] ss.rs .nil)).cat r.rc = t.rc by rw [← hE.out, Rc.cat_assoc]; simp [Tf.rc, hk7, Rc.cat])
        have HFl := Lib.hid hfs
        have Hgs := Lib.hid (show kk = 7 → (0 : Int) = greatestL [] ∧ (0 : Int) = (linesW [] : Nat) from fun e => absurd e hk7)
        clear hfs hk7
        go_wp2_with fail
        clear x0 x3
        generalize hWb : W3 = Wb at HRA3 HC3 ⊢
        clear HT3 hWb
        have HRAb := HRA3
        have HCb := HC3
        have Hsl := Hsub
        have HslC := Lib.hid Hsc.out.2
        have HGb := Lib.hid HRA3.out.hG.2
        have HNb := Lib.hid (Nat.le_trans HNw.out (Nat.le_of_lt HGb.out))
        have HBl := Lib.hid (show ∃ Tb : Nat → Bool, Sl Wb.heap.size none ([] : List (List Pk)).length (Plines (cut Tb Wb) Wb.heap.size []) ∧ ∀ i, Tb i = true → i < N ∨ (w.heap.size < i ∧ i < Wb.heap.size) from ⟨fun _ => false, ⟨Nat.zero_le _, .inl rfl⟩, fun _ h => by cases h⟩)
        go_loopw [48] (fun i wx => ∃ (j : Nat) (rs : Ts) (done : Rs) (qs : Option Addr) (cs : Nat), i = .int .i64 j ∧ j + rs.len = ss.len ∧ Hid (done.cat rs.rs = (ss).rs) ∧ Hid (done.len = j) ∧ Hid (rs.len = 0 ∨ rs.At (cutN N w) N bq (oq + j)) ∧ Hid (rs.len = 0 ∨ rs.Cap (cutN N w) bq (oq + j)) ∧ Hid (rs.rok ∧ rs.size ≤ n ∧ rs.size ≤ 1073741824) ∧ Hid (Below w.heap.size w wx ∧ ∀ j, wx.frozen? ⟨w.heap.size, j, none⟩ = false) ∧ Hid (wx.cell? ⟨w.heap.size, k * 9 + 8, none⟩ = some (.slice qs j cs)) ∧ Hid (OutR wx Wb.heap.size N (.slice qs j cs) done) ∧ Hid (Fr Wb wx w.heap.size (k * 9 + 8))) (fun i _ => ss.len - (intOf i).toNat)
        case atStart => exact ⟨0, ss, .nil, none, 0, rfl, by simp, Lib.hid rfl, Lib.hid rfl, by simpa using Lib.hid Hsl.out.h, by simpa using HslC, HFl, Lib.hid ⟨HRAb.out.bel, HRAb.out.fz⟩, Lib.hid (HCb.out 8 _ rfl), Lib.hid (OutR.nil _ _ _), Lib.hid ⟨Nat.le_refl _, fun _ _ _ => rfl, fun _ _ => rfl⟩⟩
        case round =>
          obtain ⟨j, rs, done, qs, cs, rfl, hj, HEs, HDn, HAs, HCs, HFs, HBz, HC8, HO, HFr⟩ := hrel
          obtain ⟨wy, rfl⟩ : ∃ wy : World, wy = wr := ⟨_, rfl⟩
          have HRAy := Lib.hid (HRAb.out.fr HFr.out HBz.out.1 HBz.out.2 (by rw [hD.out]; omega) ⟨_, HC8.out⟩)
          have HNy0 := Lib.hid (Nat.le_trans HNw.out HRAy.out.bel.size)
          cases rs with
          | nil =>
            simp only [Ts.len, Nat.add_zero] at hj
            have hge2 : ¬ j < ss.len := by omega
            have hdn : done = (ss).rs := by have := HEs.out; rwa [show Ts.rs .nil = .nil from rfl, Rs.cat_nil] at this
            have HRA9 := Lib.hid (show RA w wy N w.heap.size t.len (ds.cat (.node kk tt ls [] (ss).rs .nil)) by
              have hcb : ∀ jj v, ([.int .i64 kk, .bool tt, .slice p1 ls.length c1, .int .i64 (greatestL ls), .int .i64 (linesW ls), .slice none 0 0, .int .i64 0, .int .i64 0, .slice none 0 0] : List Value)[jj]? = some v → jj ≠ 8 → wy.cell? ⟨w.heap.size, k * 9 + jj, none⟩ = some v := fun jj v hv hj8 => (HFr.out.cell _ (by omega)).trans (HCb.out jj v hv)
              obtain ⟨Tb, hb1, hb2⟩ := HBl.out
              obtain ⟨q9, c9, h9, Ts, hs1, hs2⟩ := HO.out.in (by rw [HDn.out]; omega)
              obtain ⟨rfl, hjl, rfl⟩ : qs = q9 ∧ j = done.len ∧ cs = c9 := by simpa using h9
              subst hdn
              refine RA.snoc (gi := 0) (sz := 0) (p := p1) (p' := none) (q := qs) (c := c1) (c' := 0) (d := cs) HRAy.out ?_ ?_ ?_ ?_ ?_ ?_ ?_ ?_ ?_ Hgs.out ⟨fun i => decide (i < N) || Tb i || Ts i, ⟨?_, ?_, ?_⟩, fun i hi => ?_⟩
              · rw [hD.out]; exact hcb 0 _ rfl (by decide)
              · rw [hD.out]; exact hcb 1 _ rfl (by decide)
              · rw [hD.out]; exact hcb 2 _ rfl (by decide)
              · rw [hD.out]; exact hcb 3 _ rfl (by decide)
              · rw [hD.out]; exact hcb 4 _ rfl (by decide)
              · rw [hD.out]; exact hcb 5 _ rfl (by decide)
              · rw [hD.out]; exact hcb 6 _ rfl (by decide)
              · rw [hD.out]; exact hcb 7 _ rfl (by decide)
              · rw [hD.out, ← hjl]; exact HC8.out
              · exact Hs1.out.imp' HNy0.out fun b o ha => Plines.le (le_cutN (HRAy.out.bel.mono HNw.out) fun i hi => by simp [hi]) HNy0.out ls b o ha
              · exact hb1.imp' HFr.out.size fun b o ha => Plines.le (Le.cut2 fun i hi => ⟨by simp [hi], fun o v hv => by
                  have := HFr.out.block i (by rcases hb2 i hi with h | h; (· have := HNb.out; omega); (· exact h.2)) (by rcases hb2 i hi with h | h; (· have := HNw.out; omega); (· omega))
                  simp only [World.cell?] at hv ⊢
                  rw [this]; exact hv⟩) HFr.out.size [] b o ha
              · exact hs1.imp' (Nat.le_refl _) fun b o ha => Rs.At.le (Le.cut2 fun i hi => ⟨by simp [hi], fun _ _ h => h⟩) (Nat.le_refl _) _ b o ha
              · have hi' : i < N ∨ Tb i = true ∨ Ts i = true := by simpa [or_assoc] using hi
                rcases hi' with h | h | h
                · exact .inl h
                · rcases hb2 i h with h | h
                  · exact .inl h
                  · exact .inr ⟨h.1, Nat.lt_of_lt_of_le h.2 HFr.out.size⟩
                · rcases hs2 i h with h | h
                  · exact .inl h
                  · exact .inr ⟨by have := HGb.out; omega, h.2⟩)
            clear HEs HAs HCs HFs HRAy HC8 HO HFr hdn HBz
            go_wp2_with fail
            go_roundw
            case rel => exact ⟨k + 1, r, ds.cat (.node kk tt ls [] (ss).rs .nil), by go_num, by have := Hk.out; omega, Hrc, Lib.hid (by rw [Rc.cat_len, hD.out]; rfl), HR4, HCr, HFn, HRA9⟩
            case measure => simp [intOf]; omega
          | sub l r2 =>
            simp only [Ts.len] at hj
            have hlt3 : j < ss.len := by omega
            obtain ⟨hq2, hbq⟩ := Hsl.out.a (by omega)
            subst hq2
            have hat : (Ts.sub l r2).At (cutN N w) N bq (oq + j) := by
              rcases HAs.out with e | e
              · simp [Ts.len] at e
              · exact e
            obtain ⟨⟨ps, cs9, h1, s1⟩, h4⟩ := hat
            have hcl : (Ts.sub l r2).Cap (cutN N w) bq (oq + j) := by
              rcases HCs.out with e | e
              · simp [Ts.len] at e
              · exact e
            have HC2 := Lib.hid (show r2.len = 0 ∨ r2.Cap (cutN N w) bq (oq + (j + 1)) from .inr hcl.2)
            have hNy : N ≤ wy.heap.size := HNy0.out
            have hle : Le (cutN N w) wy := fun b o v hv => by
              obtain ⟨e1, e2⟩ := cell_cut_some hv
              have hb : b < N := by simpa using e1
              exact (HRAy.out.bel.cell (Nat.lt_of_lt_of_le hb HNw.out)).trans e2
            have xs := hle _ _ _ h1
            have HNy := Lib.hid hNy
            have HKr := Lib.hid (IH.out l (by have := HFs.out.2.1; simp only [Ts.size] at this; omega) (by have := HFs.out.2.2; simp only [Ts.size] at this; omega) HFs.out.1.1 ps cs9 N wy.drew (s1.imp' (Nat.le_refl _) fun b o ha => Tf.At.le (Le.trans (c := wy.drew) hle (fun b o v hv => hv)) (Nat.le_refl _) l b o ha) hNy (fun b' o' e => Tf.Cap.congr (fun b o => cutN_cell (HBz.out.1.mono HNw.out).drew b o) l b' o' (hcl.1 ps cs9 h1 b' o' e)))
            have HAt2 := Lib.hid (show r2.len = 0 ∨ r2.At (cutN N w) N bq (oq + (j + 1)) from .inr h4)
            have HF2 := Lib.hid (show r2.rok ∧ r2.size ≤ n ∧ r2.size ≤ 1073741824 from ⟨HFs.out.1.2, by have := HFs.out.2.1; simp only [Ts.size] at this; omega, by have := HFs.out.2.2; simp only [Ts.size] at this; omega⟩)
            have Hjn := Lib.hid (show j ≤ 1073741824 by have := HFl.out.2.2; have := Ts.len_size (ss); omega)
            have Hj := Lib.hid hj
            clear h1 s1 h4 hNy hle hj HAs HFs hcl HCs
            go_wp2_with fail
            refine bgk 13 (fun W => W.cell? ⟨w.heap.size, k * 9 + 8, none⟩ = some (.slice qs j cs)) (HC8.out) (fun hHeld => ?_)
            refine tk0 0 ?_ rfl (.inl ⟨by rfl, ?_⟩) ?_
            rotate_left
            · (intro w hSw; (try dsimp only at hSw); go_simp; try with_reducible rfl)
            try simp only [Act.put, List.setIfInBounds_toArray, List.set_cons_zero, List.set_cons_succ]
            refine tk0 1 ?_ rfl (.inl ⟨by rfl, ?_⟩) ?_
            rotate_left
            · (intro w hSw; (try dsimp only at hSw); go_simp; try with_reducible rfl)
            try simp only [Act.put, List.setIfInBounds_toArray, List.set_cons_zero, List.set_cons_succ]
            refine tk0 2 ?_ rfl (.inl ⟨by rfl, ?_⟩) ?_
            rotate_left
            · (intro w hSw; (try dsimp only at hSw); go_simp; try with_reducible rfl)
            try simp only [Act.put, List.setIfInBounds_toArray, List.set_cons_zero, List.set_cons_succ]
            refine tk0 3 ?_ rfl (.inl ⟨by rfl, ?_⟩) ?_
            rotate_left
            · (intro w hSw; (try dsimp only at hSw); go_simp; try with_reducible rfl)
            try simp only [Act.put, List.setIfInBounds_toArray, List.set_cons_zero, List.set_cons_succ]
            refine tk0 4 ?_ rfl (.inl ⟨by rfl, ?_⟩) ?_
            rotate_left
            · (intro w hSw; (try dsimp only at hSw); go_simp; try with_reducible rfl)
            try simp only [Act.put, List.setIfInBounds_toArray, List.set_cons_zero, List.set_cons_succ]
            refine tk0 5 ?_ rfl (.inl ⟨by rfl, ?_⟩) ?_
            rotate_left
            · (intro w hSw; (try dsimp only at hSw); go_simp; try with_reducible rfl)
            try simp only [Act.put, List.setIfInBounds_toArray, List.set_cons_zero, List.set_cons_succ]
            refine tkl 6 ?_ rfl (.inl ⟨by rfl, ?_⟩) ?_
            rotate_left
            · (intro w hSw; (try dsimp only at hSw); go_simp; try with_reducible rfl)
            try simp only [Act.put, List.setIfInBounds_toArray, List.set_cons_zero, List.set_cons_succ]
            refine tk0 7 ?_ rfl (.inl ⟨by rfl, ?_⟩) ?_
            rotate_left
            · (intro w hSw; (try dsimp only at hSw); go_simp; try with_reducible rfl)
            try simp only [Act.put, List.setIfInBounds_toArray, List.set_cons_zero, List.set_cons_succ]
            refine rdk 8 rfl (fun K hK => ?_)
            go_simp
            refine HKr.out.mono ?_
            rintro e w3 ⟨qr, dr, rfl, hB3, hN3⟩
            have hB3 : Below wy.heap.size wy w3 := (Below.refl wy.heap.size wy).drew.trans hB3
            have HB3 := Lib.hid hB3
            have hOk := HO.out.keep (w' := w3) (fun i _ hi => hB3.block i hi) HNy.out hB3.size
            obtain ⟨qv, cv, w4, hrun, hO4, hgr⟩ := app_rs (d := dr) hOk (Nat.le_trans HFr.out.size hB3.size) HNb.out (show Wb.heap.size ≤ wy.drew.heap.size from HFr.out.size) (by have e := hN3; exact e) (fun g hg => (HO.out.lt hg).2) (by rw [HDn.out]; have := Hjn.out; omega) 84
            rw [HDn.out] at hrun hO4
            rw [Tf.rc_len] at hrun hgr
            have hA5 : Below w3.heap.size w3 (w3.alloc (.cells #[.slice qr l.len dr] 67 (0, 0))) := (Below.refl _ w3).alloc (Nat.le_refl _) _
            have hs5 := hA5.size
            have hown : ∀ i, (Value.slice qs j cs).ownBlock = some i → Wb.heap.size ≤ i := fun i h => (HO.out.lt h).1
            have hBy : Below wy.heap.size wy (w3.alloc (.cells #[.slice qr l.len dr] 67 (0, 0))) := hB3.trans (hA5.mono hB3.size)
            have hbl : ∀ i, i < Wb.heap.size → w4.heap[i]? = wy.heap[i]? := fun i hi => (hgr.block i (by have := HFr.out.size; have := hB3.size; omega) (fun e => by have := hown i e.symm; omega)).trans (hBy.block i (by have := HFr.out.size; omega))
            have hG4 : ∀ jj, w4.cell? ⟨w.heap.size, jj, none⟩ = wy.cell? ⟨w.heap.size, jj, none⟩ := fun jj => by simp only [World.cell?, hbl _ HGb.out]
            have hBw4 : Below Wb.heap.size wy w4 := (hBy.mono HFr.out.size).grown hgr (by have := HFr.out.size; have := hB3.size; omega) hown
            have HB4 := Lib.hid (show Below w.heap.size w w4 ∧ ∀ j, w4.frozen? ⟨w.heap.size, j, none⟩ = false from ⟨(HBz.out.1.trans (hBy.mono HBz.out.1.size)).grown hgr (by have := HBz.out.1.size; have := hBy.size; omega) (fun i h => by have := hown i h; have := HGb.out; omega), fun j => (World.frozen?_of_block (hbl _ HGb.out)).trans (HBz.out.2 j)⟩)
            have HRn := Lib.hid hrun
            have HG4 := Lib.hid hG4
            have HO4 := Lib.hid hO4
            have HF4 := Lib.hid (show Fr Wb w4 w.heap.size (k * 9 + 8) from ⟨Nat.le_trans HFr.out.size (Nat.le_trans hBy.size hgr.size), fun i h1 h2 => (hbl i h1).trans (HFr.out.block i h1 h2), fun jj hj => (hG4 jj).trans (HFr.out.cell jj hj)⟩)
            have hc3 : w3.cell? ⟨w.heap.size, k * 9 + 8, none⟩ = some (.slice qs j cs) := (hB3.cell (by have := HGb.out; have := HFr.out.size; show w.heap.size < wy.heap.size; omega)).trans HC8.out
            have hc5 : (w3.alloc (.cells #[.slice qr l.len dr] 67 (0, 0))).cell? ⟨w.heap.size, k * 9 + 8, none⟩ = some (.slice qs j cs) := (hBy.cell (by have := HGb.out; have := HFr.out.size; show w.heap.size < wy.heap.size; omega)).trans HC8.out
            clear hOk hown hBy hbl hBw4 hrun hO4 hgr hB3 hN3 hG4
            refine hK.out _ _ ?_ (fun hHeld => ?_)
            · exact hc3
            clear hK K
            try simp only [Act.put, List.setIfInBounds_toArray, List.set_cons_zero, List.set_cons_succ]
            refine rdk 9 rfl (fun K hK => ?_)
            go_simp
            refine hK.out _ _ ?_ (fun hHeld => ?_)
            · exact hc5
            clear hK K
            try simp only [Act.put, List.setIfInBounds_toArray, List.set_cons_zero, List.set_cons_succ]
            refine rdk 10 rfl (fun K hK => ?_)
            clear hA5 hs5
            refine stepK_app _ _ _ rfl rfl rfl rfl HRn.out ?_
            refine hK.out _ _ ?_ (fun hHeld => ?_)
            · exact (HG4.out _).trans HC8.out
            clear hK K
            try simp only [Act.put, List.setIfInBounds_toArray, List.set_cons_zero, List.set_cons_succ]
            refine tk0 11 ?_ rfl (.inl ⟨by rfl, ?_⟩) ?_
            rotate_left
            · (intro w hSw; (try dsimp only at hSw); go_simp; try with_reducible rfl)
            try simp only [Act.put, List.setIfInBounds_toArray, List.set_cons_zero, List.set_cons_succ]
            refine tk0 12 ?_ rfl (.inl ⟨by rfl, ?_⟩) ?_
            rotate_left
            · (intro w hSw; (try dsimp only at hSw); go_simp; try with_reducible rfl)
            try simp only [Act.put, List.setIfInBounds_toArray, List.set_cons_zero, List.set_cons_succ]
            refine rdb 13 rfl (fun K hK => ?_)
            have e8 : w4.cell? ⟨w.heap.size, k * 9 + 8, none⟩ = some (.slice qs j cs) := (HG4.out _).trans HC8.out
            have f8 : w4.frozen? ⟨w.heap.size, k * 9 + 8, none⟩ = false := HB4.out.2 _
            go_simp
            refine hK.out _ _ ?_
            have HCp := Lib.hid (show (w4.setCell ⟨w.heap.size, k * 9 + 8, none⟩ (.slice qv (j + 1) cv)).cell? ⟨w.heap.size, k * 9 + 8, none⟩ = some (.slice qv (j + 1) cv) from World.cell?_setCell_same _ _ _ e8)
            have HRp := Lib.hid (show Below w.heap.size w (w4.setCell ⟨w.heap.size, k * 9 + 8, none⟩ (.slice qv (j + 1) cv)) ∧ ∀ j9, (w4.setCell ⟨w.heap.size, k * 9 + 8, none⟩ (.slice qv (j + 1) cv)).frozen? ⟨w.heap.size, j9, none⟩ = false from ⟨HB4.out.1.setCell (p := ⟨w.heap.size, k * 9 + 8, none⟩) (Nat.le_refl _) _, fun j9 => (World.frozen?_setCells w.heap.size [_] (k * 9 + 8) w4 ⟨w.heap.size, j9, none⟩).trans (HB4.out.2 j9)⟩)
            have HOp := Lib.hid (show OutR (w4.setCell ⟨w.heap.size, k * 9 + 8, none⟩ (.slice qv (j + 1) cv)) Wb.heap.size N (.slice qv (j + 1) cv) (done.cat (.sub l.rc .nil)) from HO4.out.keep (fun i hi _ => Below.heap_setCell _ _ _ _ (by have := HGb.out; have := HNw.out; show i ≠ w.heap.size; omega)) (by have := HF4.out.size; have := HNb.out; omega) (by simp [World.setCell]))
            have HFp := Lib.hid (show Fr Wb (w4.setCell ⟨w.heap.size, k * 9 + 8, none⟩ (.slice qv (j + 1) cv)) w.heap.size (k * 9 + 8) from ⟨by have := HF4.out.size; simpa [World.setCell] using this, fun i h1 h2 => (Below.heap_setCell _ _ _ _ h2).trans (HF4.out.block i h1 h2), fun jj hj => (World.cell?_setCell_other _ _ _ _ (fun e => hj (by injection e with e e'; exact e'.symm))).trans (HF4.out.cell jj hj)⟩)
            clear e8 f8
            clear hK K
            try simp only [Act.put, List.setIfInBounds_toArray, List.set_cons_zero, List.set_cons_succ]
            refine dnk ?_ (by kernel_rfl) _
            have HEn := Lib.hid (show (done.cat (.sub l.rc .nil)).cat r2.rs = (ss).rs by rw [Rs.cat_assoc]; exact HEs.out)
            clear HKr HEs HO HC8 HRAy HFr hc3 hc5 HBz
            go_wp2_with fail
            go_roundw
            case rel => exact ⟨j + 1, r2, done.cat (.sub l.rc .nil), qv, cv, by go_num, by have := Hj.out; omega, HEn, Lib.hid (by rw [Rs.cat_len, HDn.out]; rfl), HAt2, HC2, HF2, HRp, HCp, HOp, HFp⟩
            case measure => simp [intOf]; omega
theorem rec_to : ∀ n, RecTo n
  | 0 => fun _t h => absurd h (Nat.not_lt_zero _)
  | n + 1 => rec_step n (rec_to n)
end Go.Proofs.Ytcadeeldogknmaa
