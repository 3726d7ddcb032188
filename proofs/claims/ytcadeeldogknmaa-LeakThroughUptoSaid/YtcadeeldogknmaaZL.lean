/- ZK, ZL as one. -/
import Derived.Test.YtcadeeldogknmaaZE
import Derived.Test.YtcadeeldogknmaaZG
import Derived.Test.YtcadeeldogknmaaZJ
/- Any list of nodes rewritten. -/
namespace Go.Proofs.Ytcadeeldogknmaa
open Go.RowKit

theorem rl_to : ∀ n, RL n
  | 0 => fun l h => absurd h (Nat.not_lt_zero _)
  | n + 1 => list_step n fun k h1 h2 => by
    have hRL := rl_to n
    have hk : k = 1 ∨ k = 2 ∨ k = 3 ∨ k = 4 ∨ k = 5 ∨ k = 6 ∨ k = 7 ∨ k = 8 ∨ k = 9 := by omega
    rcases hk with rfl | rfl | rfl | rfl | rfl | rfl | rfl | rfl | rfl
    · exact ⟨_, rfl, fun args w => by kernel_rfl, deed_same n⟩
    · exact ⟨_, rfl, fun args w => by kernel_rfl, deed_lines n⟩
    · exact ⟨_, rfl, fun args w => by kernel_rfl, deed_branch n hRL⟩
    · exact ⟨_, rfl, fun args w => by kernel_rfl, deed_way n hRL⟩
    · exact ⟨_, rfl, fun args w => by kernel_rfl, deed_loop n hRL⟩
    · exact ⟨_, rfl, fun args w => by kernel_rfl, deed_rounds n hRL⟩
    · exact ⟨_, rfl, fun args w => by kernel_rfl, deed_call n hRL⟩
    · exact ⟨_, rfl, fun args w => by kernel_rfl, deed_none n⟩
    · exact ⟨_, rfl, fun args w => by kernel_rfl, deed_each n hRL⟩
end Go.Proofs.Ytcadeeldogknmaa
/- Lines of several terms, one row. -/
namespace Go.Proofs.Ytcadeeldogknmaa
open Go.RowKit

/-- the memory ahead of a block -/
def cutN (N : Nat) (w : World) : World := cut (fun i => decide (i < N)) w
theorem cell_cutN {N b o : Nat} {w : World} {v : Value} (h : w.cell? ⟨b, o, none⟩ = some v) (hb : b < N) : (cutN N w).cell? ⟨b, o, none⟩ = some v := by
  rw [cutN, cell_cut, if_pos (by simpa using hb)]; exact h
theorem Picks.cutN {N : Nat} {w : World} : ∀ (xs : List Pk) (b o : Nat), b < N → Picks w xs b o → Picks (Ytcadeeldogknmaa.cutN N w) xs b o
  | [], _, _, _, _ => trivial
  | _x :: xs, b, o, hb, h => ⟨⟨cell_cutN h.1.1 hb, cell_cutN h.1.2.1 hb, cell_cutN h.1.2.2.1 hb, cell_cutN h.1.2.2.2 hb⟩, Picks.cutN xs b (o + 4) hb h.2⟩
theorem Plines.cutN {N : Nat} {w : World} : ∀ (xs : List (List Pk)) (b o : Nat), b < N → Plines w N xs b o → Plines (Ytcadeeldogknmaa.cutN N w) N xs b o
  | [], _, _, _, _ => trivial
  | x :: xs, b, o, hb, ⟨⟨p, c, h1, s1⟩, h2⟩ => ⟨⟨p, c, cell_cutN h1 hb, s1.imp (Nat.le_refl _) fun b' o' hb' ha => Picks.cutN x b' o' hb' ha⟩, Plines.cutN xs b (o + 1) hb h2⟩
mutual
theorem Tf.At.cutN {N : Nat} {w : World} : ∀ (l : Tf) (b o : Nat), b < N → Tf.At w N l b o → Tf.At (Ytcadeeldogknmaa.cutN N w) N l b o
  | .nil, _, _, _, _ => trivial
  | .node k ls t subs rest, b, o, hb, h => by
    obtain ⟨h0, ⟨p, c, h1, s1⟩, h2, ⟨q, d, h3, s3⟩, h4⟩ := h
    exact ⟨cell_cutN h0 hb, ⟨p, c, cell_cutN h1 hb, s1.imp (Nat.le_refl _) fun b' o' hb' ha => Plines.cutN ls b' o' hb' ha⟩, cell_cutN h2 hb, ⟨q, d, cell_cutN h3 hb, s3.imp (Nat.le_refl _) fun b' o' hb' ha => Ts.At.cutN subs b' o' hb' ha⟩, Tf.At.cutN rest b (o + 4) hb h4⟩
theorem Ts.At.cutN {N : Nat} {w : World} : ∀ (l : Ts) (b o : Nat), b < N → Ts.At w N l b o → Ts.At (Ytcadeeldogknmaa.cutN N w) N l b o
  | .nil, _, _, _, _ => trivial
  | .sub l rest, b, o, hb, h => by
    obtain ⟨⟨p, c, h1, s1⟩, h4⟩ := h
    exact ⟨⟨p, c, cell_cutN h1 hb, s1.imp (Nat.le_refl _) fun b' o' hb' ha => Tf.At.cutN l b' o' hb' ha⟩, Ts.At.cutN rest b (o + 1) hb h4⟩
end
theorem le_cutN {N : Nat} {w w' : World} {S : Nat → Bool} (hB : Below N w w') (hS : ∀ i, i < N → S i = true) : Le (cutN N w) (cut S w') := fun b o v h => by
  obtain ⟨h1, h2⟩ := cell_cut_some h
  have hb : b < N := by simpa using h1
  rw [cell_cut, if_pos (hS b hb)]
  exact (hB.cell hb).trans h2
/-- in memory that was there, or new -/
def NewN (N lo : Nat) (W : World) (P : World → Nat → Prop) : Prop := ∃ S : Nat → Bool, P (cut S W) W.heap.size ∧ ∀ i, S i = true → i < N ∨ (lo ≤ i ∧ i < W.heap.size)
theorem NewN.later {N lo : Nat} {W W' : World} {P : World → Nat → Prop} (h : NewN N lo W P) (hP : MonoP P) (hN : N ≤ W.heap.size) (hB : Below W.heap.size W W') : NewN N lo W' P := by
  obtain ⟨S, h1, h2⟩ := h
  refine ⟨S, hP _ _ _ _ h1 (Le.cut2 fun b hb => ⟨hb, fun o v hv => ?_⟩) hB.size, fun i hi => ?_⟩
  · have hl : b < W.heap.size := by rcases h2 b hb with h | h <;> omega
    exact (hB.cell hl).trans hv
  · rcases h2 i hi with h | h
    · exact .inl h
    · exact .inr ⟨h.1, Nat.lt_of_lt_of_le h.2 hB.size⟩
/-- cells of lines that came in -/
def PC (v : World) (N : Nat) : List (List Pk) → List Value → Prop
  | [], cs => cs = []
  | l :: ls, cs => ∃ p c rest, cs = .slice p l.length c :: rest ∧ Sl N p l.length (Picks v l) ∧ PC v N ls rest
theorem PC.len {v : World} {N : Nat} : ∀ (ls : List (List Pk)) (cs : List Value), PC v N ls cs → cs.length = ls.length
  | [], cs, h => by rw [show cs = [] from h]; rfl
  | l :: ls, cs, h => by
    obtain ⟨p, c, rest, rfl, _, h2⟩ := h
    simp [PC.len ls rest h2]
theorem PC.app {v : World} {N : Nat} {bs : List (List Pk)} {ds : List Value} (hb : PC v N bs ds) : ∀ (xs : List (List Pk)) (cs : List Value), PC v N xs cs → PC v N (xs ++ bs) (cs ++ ds)
  | [], cs, h => by rw [show cs = [] from h]; exact hb
  | l :: ls, cs, h => by
    obtain ⟨p, c, rest, rfl, h1, h2⟩ := h
    exact ⟨p, c, rest ++ ds, rfl, h1, PC.app hb ls rest h2⟩
theorem PC.one {v : World} {N : Nat} : ∀ (ls : List (List Pk)) (cs : List Value), PC v N ls cs → ∀ u ∈ cs, u.oneCell' = true
  | [], cs, h => by rw [show cs = [] from h]; intro u hu; cases hu
  | l :: ls, cs, h => by
    obtain ⟨p, c, rest, rfl, h1, h2⟩ := h
    intro u hu
    rcases List.mem_cons.1 hu with rfl | hu
    · rfl
    · exact PC.one ls rest h2 u hu
theorem Plines.pc {v w : World} {N : Nat} (hw : Le v w) : ∀ (ls : List (List Pk)) (b o : Nat), Plines v N ls b o → ∃ cs, PC v N ls cs ∧ ∀ j u, cs[j]? = some u → w.cell? ⟨b, o + j, none⟩ = some u
  | [], b, o, _ => ⟨[], rfl, fun j u h => by simp at h⟩
  | l :: ls, b, o, ⟨⟨p, c, h1, s1⟩, h2⟩ => by
    obtain ⟨cs, k1, k2⟩ := Plines.pc hw ls b (o + 1) h2
    refine ⟨.slice p l.length c :: cs, ⟨p, c, cs, rfl, s1, k1⟩, fun j u h => ?_⟩
    cases j with
    | zero => simp at h; subst h; exact hw _ _ _ h1
    | succ j =>
      have := k2 j u (by simpa using h)
      rw [show o + (j + 1) = o + 1 + j by omega]; exact this
theorem Plines.of {v W : World} {N M g : Nat} (hw : Le v W) (hM : N ≤ M) : ∀ (ls : List (List Pk)) (cs : List Value) (o : Nat), PC v N ls cs → (∀ j u, cs[j]? = some u → W.cell? ⟨g, o + j, none⟩ = some u) → Plines W M ls g o
  | [], _, _, _, _ => trivial
  | l :: ls, cs, o, h, H => by
    obtain ⟨p, c, rest, rfl, h1, h2⟩ := h
    refine ⟨⟨p, c, H 0 _ rfl, h1.imp' hM fun b o ha => Picks.le hw l b o ha⟩, Plines.of hw hM ls rest (o + 1) h2 fun j u hu => ?_⟩
    have := H (j + 1) u (by simpa using hu)
    rw [show o + (j + 1) = o + 1 + j by omega] at this; exact this
theorem info_picks : (Try.prog.info? 57).map (fun i => (i.zero, i.size, i.bytes)) = some (some (.slice none 0 0), 1, 24) := by kernel_rfl
set_option maxRecDepth 100000 in
set_option maxHeartbeats 3200000 in
theorem allLines_any (t : Tf) (p : Option Addr) (c N : Nat) (w : World) (h : t.In w N p) (hN : N ≤ w.heap.size) (hl : t.lines.length ≤ 1073741824) :
    Calls Try.prog 48 #[.slice p t.len c] w fun e w' => ∃ q d, e = .returned (.slice q t.lines.length d) ∧ Below w.heap.size w w' ∧ NewN N w.heap.size w' fun u M => Sl M q t.lines.length (Plines u M t.lines) := by
  obtain ⟨i0, hi, hz0, hz1, hz2⟩ := info_parts info_picks
  have hm := h.1
  obtain ⟨b, o, hp, hA⟩ : ∃ b o, (0 < t.len → p = some ⟨b, o, none⟩ ∧ b < N) ∧ (t.len = 0 ∨ t.At (cutN N w) N b o) := by
    rcases h.2 with h0 | ⟨b, o, rfl, hb, ha⟩
    · exact ⟨0, 0, fun h => by omega, .inl h0⟩
    · exact ⟨b, o, fun _ => ⟨rfl, hb⟩, .inr (Tf.At.cutN t b o hb ha)⟩
  have Hp := Lib.hid hp
  have HA := Lib.hid hA
  have HL := Lib.hid hl
  have Hi := Lib.hid (And.intro hi (And.intro hz0 (And.intro hz1 hz2)))
  have HNw := Lib.hid hN
  clear h hp hA hl hi hz0 hz1 hz2 hN
  go_enter Try.func48, Try.ntmps48
  go_wp2_with fail
  go_loopw [3, 8] (fun u3 i wr => ∃ (k : Nat) (rs : Tf) (ds : List (List Pk)) (q : Option Addr) (d : Nat) (news : List Value), u3 = .slice q ds.length d ∧ i = .int .i64 k ∧ k + rs.len = t.len ∧ Hid (ds ++ rs.lines = t.lines) ∧ Hid (rs.len = 0 ∨ rs.At (cutN N w) N b (o + k * 4)) ∧ Hid (wr.ownsRow w.heap.size 57 1 (.slice q ds.length d) ds.length news) ∧ Hid (PC (cutN N w) N ds news) ∧ Hid (Below w.heap.size w wr)) (fun _ i _ => t.len - (intOf i).toNat)
  case atStart => exact ⟨0, t, [], none, 0, [], rfl, rfl, by simp, Lib.hid rfl, by simpa using HA, Lib.hid (World.ownsRow_nil _ _ _ _), Lib.hid rfl, Lib.hid (Below.refl _ _)⟩
  case round =>
    obtain ⟨k, rs, ds, q, d, news, rfl, rfl, hk, hE, hAt, hO, hP, hB⟩ := hrel
    obtain ⟨wi, rfl⟩ : ∃ wi : World, wi = wr := ⟨_, rfl⟩
    cases rs with
    | nil =>
      simp only [Tf.len, Nat.add_zero] at hk
      have hge : ¬ k < t.len := by omega
      have hds : ds = t.lines := by have := hE.out; simpa [Tf.lines] using this
      subst hds
      clear hE hAt
      go_wp2_with fail
      go_ret
      refine ⟨q, d, rfl, hB.out, ?_⟩
      rcases hO.out with ⟨_, ⟨h1, h0⟩ | ⟨g, cap, cur, hv, hg, hkk, hnc, hmm, hs, ht⟩⟩
      · have hq : q = none := by injection h1
        subst hq
        exact ⟨fun _ => false, ⟨by have := HL.out; omega, .inl (by omega)⟩, fun _ h => by cases h⟩
      · have hlt : g < wi.heap.size := lt_blk hkk
        have hq : q = some ⟨g, 0, none⟩ := by injection hv
        subst hq
        refine ⟨fun i => decide (i < N) || i == g, ⟨by have := HL.out; omega, .inr ⟨g, 0, rfl, hlt, Plines.of (le_cutN (hB.out.mono HNw.out) fun i hi => by simp [hi]) (Nat.le_trans HNw.out hB.out.size) t.lines news 0 hP.out fun j u hu => ?_⟩⟩, fun i hi => ?_⟩
        · rw [cell_cut, if_pos (by simp), Nat.zero_add]
          rw [← ht, List.getElem?_take] at hu
          split at hu
          · exact cell_blk hkk (by rw [← Array.getElem?_toList]; exact hu)
          · cases hu
        · have : i < N ∨ i = g := by simpa using hi
          rcases this with h | rfl
          · exact .inl h
          · exact .inr ⟨hg, hlt⟩
    | node kk ls tt ss r =>
      simp only [Tf.len] at hk
      have hlt : k < t.len := by omega
      obtain ⟨rfl, hbN⟩ := Hp.out (by omega)
      have ha : (Tf.node kk ls tt ss r).At (cutN N w) N b (o + k * 4) := by
        rcases hAt.out with e | e
        · simp [Tf.len] at e
        · exact e
      obtain ⟨h0, ⟨p1, c1, h1, s1⟩, h2, ⟨q2, d2, h3, s3⟩, h4⟩ := ha
      have hle : Le (cutN N w) wi := fun b o v hv => by
        obtain ⟨e1, e2⟩ := cell_cut_some hv
        have hb : b < N := by simpa using e1
        exact (hB.out.cell (Nat.lt_of_lt_of_le hb HNw.out)).trans e2
      have x0 := hle _ _ _ h0
      have x1 := hle _ _ _ h1
      have x2 := hle _ _ _ h2
      have x3 := hle _ _ _ h3
      obtain ⟨W1, hW1⟩ : ∃ W1, wi.alloc (.cells #[.int .i64 kk, .slice p1 ls.length c1, .bool tt, .slice q2 ss.len d2] 37 (0, 0)) = W1 := ⟨_, rfl⟩
      have HW1 := Lib.hid hW1
      have hA1 : Below wi.heap.size wi W1 := by rw [← hW1]; exact (Below.refl _ wi).alloc (Nat.le_refl _) _
      obtain ⟨cs, hcs, hsrc⟩ : ∃ cs, PC (cutN N w) N ls cs ∧ Src W1 1 p1 ls.length cs := by
        rcases s1.2 with e | ⟨b', o', rfl, hb', ha'⟩
        · have : ls = [] := List.length_eq_zero_iff.1 e
          subst this
          exact ⟨[], rfl, rfl, .inl rfl⟩
        · obtain ⟨cs, k1, k2⟩ := Plines.pc (fun b o v hv => by
            have := hle _ _ _ hv
            exact (hA1.cell (World.block_lt_of_cell? _ _ this)).trans this) ls b' o' ha'
          exact ⟨cs, k1, by rw [PC.len ls cs k1]; omega, .inr ⟨b', o', rfl, k2⟩⟩
      have hlen : ds.length + ls.length ≤ 1073741824 := by
        have h1 := HL.out
        rw [← hE.out, Tf.lines] at h1
        simp only [List.length_append] at h1
        omega
      have hO1 : W1.ownsRow w.heap.size 57 1 (.slice q ds.length d) ds.length news := own_keep hO.out fun g _ hg _ => hA1.block g hg
      obtain ⟨v', W3, hr, g1, g2, g3⟩ := run_app (P := Try.prog) W1 w.heap.size 35 35 57 i0 (.slice none 0 0) 1 24 Try.underlying35 Hi.out.1 Hi.out.2.1 Hi.out.2.2.1 Hi.out.2.2.2 rfl (by decide) (.slice q ds.length d) ds.length news hO1 p1 ls.length c1 cs hsrc (PC.one ls cs hcs) (by unfold maxLen; omega) (by omega) (Nat.le_trans hB.out.size hA1.size)
      obtain ⟨q5, d5, rfl⟩ : ∃ q5 d5, v' = .slice q5 (ds ++ ls).length d5 := by
        rw [List.length_append]
        rcases g1.2 with ⟨e, e2⟩ | ⟨g, cap, cur, e, _⟩
        · exact ⟨none, 0, by rw [e, e2]⟩
        · exact ⟨_, _, e⟩
      have HRn := Lib.hid hr
      have HO3 := Lib.hid (show W3.ownsRow w.heap.size 57 1 (.slice q5 (ds ++ ls).length d5) (ds ++ ls).length (news ++ cs) by rw [List.length_append] at g1 ⊢; exact g1)
      have HP3 := Lib.hid (PC.app hcs ds news hP.out)
      have HB3 := Lib.hid (show Below w.heap.size w W3 from (hB.out.trans (hA1.mono hB.out.size)).grown g2 (Nat.le_trans hB.out.size hA1.size) (fun i e => by
        rcases hO.out.2 with ⟨e2, _⟩ | ⟨g, cap, cur, e2, hg, _⟩
        · rw [e2] at e; cases e
        · rw [e2] at e; cases e; exact hg))
      have HE3 := Lib.hid (show (ds ++ ls) ++ r.lines = t.lines by rw [← hE.out, Tf.lines, List.append_assoc])
      have HA3 := Lib.hid (show r.len = 0 ∨ r.At (cutN N w) N b (o + (k + 1) * 4) from .inr (by rw [show o + (k + 1) * 4 = o + k * 4 + 4 by omega]; exact h4))
      have Hk := Lib.hid hk
      clear h0 h1 h2 h3 h4 s1 s3 hle hW1 hA1 hcs hsrc hlen hO1 hr g1 g2 g3 hk hE hAt hO hP hB
      go_wp2_with (at_builtin; rw [HW1.out]; refine Lib.wpList_append_run _ rfl _ _ _ _ rfl _ _ rfl rfl _ _ HRn.out ?_)
      go_roundw
      case rel => exact ⟨k + 1, r, ds ++ ls, q5, d5, news ++ cs, by rw [List.length_append], by go_num, by have := Hk.out; omega, HE3, HA3, HO3, HP3, HB3⟩
      case measure => simp [intOf]; omega
end Go.Proofs.Ytcadeeldogknmaa
