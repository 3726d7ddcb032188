/- A token is laid behind the others. -/
import Derived.Test.YtgffiggnmklcoaaGreatDoorF1
namespace Go.Proofs.YtgffiggnmklcoaaGreatDoor
open Go.RowKit

/-- a token's cells -/
def tokC (t : Tk) : List Value := [.int .i64 t.kind, .string (str t.text), .int .u64 t.word, .int .i64 t.line, .int .i64 t.col]
def toksC (ts : List Tk) : List Value := ts.flatMap tokC
theorem info_tok : (Tryz.prog.info? 52).map (fun i => (i.zero, i.size, i.bytes)) = some (some (.agg #[.int .i64 0, .string ⟨#[]⟩, .int .u64 0, .int .i64 0, .int .i64 0]), 5, 48) := by kernel_rfl
theorem toksC_snoc (ts : List Tk) (t : Tk) : toksC (ts ++ [t]) = toksC ts ++ tokC t := by simp [toksC]
theorem toksC_len (ts : List Tk) : (toksC ts).length = ts.length * 5 := by
  induction ts with
  | nil => rfl
  | cons t r ih => simp only [toksC, List.flatMap_cons, List.length_append, List.length_cons] at ih ⊢; rw [ih]; simp [tokC]; omega

/-- the list that the variable at c has -/
def TokL (w : World) (B c : Nat) (ts : List Tk) : Prop := ∃ v, w.heap[c]? = some (.cells #[v] 23 (0, 0)) ∧ w.ownsRow B 52 5 v ts.length (toksC ts)
def notTok : Obj → Prop
  | .cells _ t _ => t ≠ 52
  | _ => True
/-- all is as it was, but the variable at c, and rows of tokens from B on -/
structure Kp (B c : Nat) (w w' : World) : Prop where
  os : w'.os = w.os
  tape : w'.tape = w.tape
  output : w'.output = w.output
  size : w.heap.size ≤ w'.heap.size
  block : ∀ k o, w.heap[k]? = some o → k ≠ c → (k < B ∨ notTok o) → w'.heap[k]? = some o
theorem Kp.refl (B c : Nat) (w : World) : Kp B c w w := ⟨rfl, rfl, rfl, Nat.le_refl _, fun _ _ h _ _ => h⟩
theorem Kp.trans {B c : Nat} {x y z : World} (h : Kp B c x y) (k : Kp B c y z) : Kp B c x z :=
  ⟨k.os.trans h.os, k.tape.trans h.tape, k.output.trans h.output, Nat.le_trans h.size k.size, fun i o hi hn hB => k.block i o (h.block i o hi hn hB) hn hB⟩
theorem Kp.of_below {B c : Nat} {w w' : World} (h : Below w.heap.size w w') : Kp B c w w' :=
  ⟨h.os, h.tape, h.output, h.size, fun k _ hk _ _ => (h.block k (lt_of_block hk)).trans hk⟩
theorem Kp.below {B c : Nat} {w w' : World} (h : Kp B c w w') (hc : B ≤ c) (hs : B ≤ w.heap.size) : Below B w w' :=
  ⟨h.os, h.tape, h.output, h.size, fun k hk => by
    have hlt : k < w.heap.size := by omega
    rw [Array.getElem?_eq_getElem hlt]
    exact h.block k _ (Array.getElem?_eq_getElem hlt) (by omega) (.inl hk)⟩
theorem TokL.below {w w' : World} {B c : Nat} {ts : List Tk} (h : TokL w B c ts) (hB : Below w.heap.size w w') : TokL w' B c ts := by
  obtain ⟨v, h1, h2, h3⟩ := h
  refine ⟨v, (hB.block c (lt_of_block h1)).trans h1, h2, ?_⟩
  rcases h3 with h3 | ⟨g, cap, cur, q1, q2, q3, q4⟩
  · exact .inl h3
  · exact .inr ⟨g, cap, cur, q1, q2, (hB.block g (lt_of_block q3)).trans q3, q4⟩
theorem TokL.but {w w' : World} {B c g : Nat} {ts : List Tk} {o : Obj} (h : TokL w B c ts) (hg : w.heap[g]? = some o) (ho : notTok o) (hc : g ≠ c) (hB : But g w w') : TokL w' B c ts := by
  obtain ⟨v, h1, h2, h3⟩ := h
  refine ⟨v, (hB.block c (lt_of_block h1) (Ne.symm hc)).trans h1, h2, ?_⟩
  rcases h3 with h3 | ⟨r, cap, cur, q1, q2, q3, q4⟩
  · exact .inl h3
  · refine .inr ⟨r, cap, cur, q1, q2, (hB.block r (lt_of_block q3) ?_).trans q3, q4⟩
    rintro rfl
    rw [q3] at hg; cases hg
    exact ho rfl
theorem TokL.nil {w : World} {B c : Nat} (h : w.heap[c]? = some (.cells #[.slice none 0 0] 23 (0, 0))) : TokL w B c [] :=
  ⟨_, h, rfl, .inl ⟨rfl, rfl⟩⟩

theorem own_form {w : World} {base size n : Nat} {e : TypeId} {v : Value} {xs : List Value} (h : w.ownsRow base e size v n xs) (hn : 0 < n) : ∃ g cap, v = .slice (some ⟨g, 0, none⟩) n cap := by
  rcases h.2 with ⟨_, h0⟩ | ⟨g, cap, cur, hv, _⟩
  · omega
  · exact ⟨g, cap, hv⟩
theorem Kp.grown {B c : Nat} {w w1 : World} {row : Option Nat} (hg : w.grownBy w1 row) (hr : ∀ k, row = some k → B ≤ k ∧ ∃ cur, w.heap[k]? = some (.cells cur 52 (0, 0))) : Kp B c w w1 :=
  ⟨hg.os, hg.tape, hg.output, hg.size, fun k o hk hn hor => by
    rw [hg.block k (lt_of_block hk) ?_]
    · exact hk
    · intro e
      obtain ⟨h1, cur, h2⟩ := hr k e.symm
      rw [hk] at h2; cases h2
      rcases hor with h | h
      · omega
      · exact h rfl⟩
theorem Kp.setCell {B c : Nat} {w w1 : World} (h : Kp B c w w1) (v : Value) : Kp B c w (w1.setCell ⟨c, 0, none⟩ v) :=
  ⟨h.os, h.tape, h.output, by simp [World.setCell]; exact h.size, fun k o hk hn hor => by rw [Below.heap_setCell _ _ _ _ hn]; exact h.block k o hk hn hor⟩
theorem own_row {w : World} {B n : Nat} {v : Value} {xs : List Value} (h : w.ownsRow B 52 5 v n xs) : ∀ k, v.ownBlock = some k → B ≤ k ∧ ∃ cur, w.heap[k]? = some (.cells cur 52 (0, 0)) := by
  intro k hk
  rcases h.2 with ⟨rfl, _⟩ | ⟨g, cap, cur, rfl, hg, hh, _⟩
  · cases hk
  · have : g = k := by simpa [Value.ownBlock] using hk
    subst this
    exact ⟨hg, cur, hh⟩

set_option maxRecDepth 100000 in
set_option maxHeartbeats 3200000 in
theorem all1_any (ts : List Tk) (t : Tk) (at' : Int) (B c : Nat) (w : World) (h : TokL w B c ts) (hl : ts.length ≤ 1000000) (hB : B ≤ w.heap.size) :
    Calls Tryz.prog 34 #[.int .i64 at', .agg #[.int .i64 t.kind, .string (str t.text), .int .u64 t.word, .int .i64 t.line, .int .i64 t.col], .pointer (some ⟨c, 0, none⟩)] w fun e w' =>
      e = .returned (.bool true) ∧ TokL w' B c (ts ++ [t]) ∧ Kp B c w w' := by
  obtain ⟨v, hc, hown⟩ := h
  obtain ⟨i0, hi, hz0, hz1, hz2⟩ := info_parts info_tok
  have hcl := lt_of_block hc
  have c0 := cell_of_one hc
  have f0 := free_of_one hc
  have HC := Lib.hid hc
  have HL := Lib.hid (toksC_len ts)
  clear hc
  go_enter Tryz.func34, Tryz.ntmps34
  go_wp2_with (at_builtin; refine wpList_append_own _ rfl _ _ 23 rfl B 52 i0 (.agg #[.int .i64 0, .string ⟨#[]⟩, .int .u64 0, .int .i64 0, .int .i64 0]) 5 48 Tryz.underlying23 hi hz0 hz1 hz2 rfl (by decide) _ _ _ rfl ((hown.alloc _).alloc _) ⟨w.heap.size + 1, 0, none⟩ 1 1 (tokC t) rfl rfl ?c1 ?c2 ?c3 ?c4 ?c5 ?_)
  case c1 => intro j u hj; match j, hj with
    | 0, hj => simp [tokC] at hj; subst hj; simp [go_sem, Addr.add]
    | 1, hj => simp [tokC] at hj; subst hj; simp [go_sem, Addr.add]
    | 2, hj => simp [tokC] at hj; subst hj; simp [go_sem, Addr.add]
    | 3, hj => simp [tokC] at hj; subst hj; simp [go_sem, Addr.add]
    | 4, hj => simp [tokC] at hj; subst hj; simp [go_sem, Addr.add]
  case c2 => intro u hu; simp [tokC] at hu; rcases hu with rfl | rfl | rfl | rfl | rfl <;> rfl
  case c3 => unfold maxLen; omega
  case c4 => omega
  case c5 => simp; omega
  intro v' w1 hown' hgrow _
  obtain ⟨gg, cc, rfl⟩ := own_form hown' (by omega)
  have hn : some c ≠ v.ownBlock := by
    rcases hown.2 with ⟨rfl, _⟩ | ⟨g, cap, cur, rfl, _, hg, _⟩
    · intro e; cases e
    · intro e
      have e : c = g := by simpa [Value.ownBlock] using e
      subst e
      have := HC.out
      rw [hg] at this; cases this
  have hb1 : w1.heap[c]? = some (.cells #[v] 23 (0, 0)) := by
    rw [hgrow.block c (by simp; omega) hn, Below.heap_alloc _ _ _ (by simp; omega), Below.heap_alloc _ _ _ hcl]; exact HC.out
  have c1 := cell_of_one hb1
  have f1 := free_of_one hb1
  have hc' : c ≠ gg := by
    rintro rfl
    obtain ⟨_, cur, h2⟩ := own_row hown' c rfl
    rw [hb1] at h2; cases h2
  have HK := Lib.hid ((Kp.of_below (B := B) (c := c) (((Below.refl _ w).alloc (Nat.le_refl _) _).alloc (by simp) _)).trans (Kp.grown hgrow (own_row ((hown.alloc _).alloc _))))
  have HO := Lib.hid hown'
  have HB := Lib.hid hb1
  have HC' := Lib.hid hc'
  clear hown hown' hgrow hi hz0 hz1 hz2 c0 f0 hb1 hn hc'
  go_wp2_with fail
  go_ret
  refine ⟨rfl, ⟨_, one_setCell HB.out, ?_⟩, HK.out.setCell _⟩
  rw [List.length_append, toksC_snoc]
  exact ownsRow_setCell_other HO.out (fun e => HC'.out (by simpa [Value.ownBlock] using e.symm)) _
end Go.Proofs.YtgffiggnmklcoaaGreatDoor
