/- How a scan goes on, plainly, and what lies in memory. -/
import Derived.Test.YtgffiggnmklcoaaGreatDoorF2
namespace Go.Proofs.YtgffiggnmklcoaaGreatDoor
open Go.RowKit

def wrongV (a e : Nat) : Value := .iface 75 (.agg #[.int .i64 a, .int .i64 e])
def errV : Option (Nat × Nat) → Value
  | none => .nilIface
  | some (a, e) => wrongV a e

/-- where a scan stands, plainly -/
structure PlainSt (l : List UInt8) (a f L la : Nat) (ds : List (Nat × Tk)) : Prop where
  le : a ≤ l.length
  fuel : l.length ≤ a + f
  line : L = (lc (l.take a)).1
  col : la + (lc (l.take a)).2 = a + 1
  lex : lexAll l = (ds ++ (lexF l f a).1, (lexF l f a).2)
  len : ds.length ≤ a
theorem PlainSt.start (l : List UInt8) : PlainSt l 0 l.length 1 0 [] :=
  ⟨Nat.zero_le _, by omega, rfl, rfl, rfl, Nat.le_refl _⟩
theorem PlainSt.over {l : List UInt8} {a f L la : Nat} {ds : List (Nat × Tk)} (h : PlainSt l a f L la ds) (ha : l.length ≤ a) : lexAll l = (ds, none) := by
  rw [h.lex]
  cases f with
  | zero => simp [lexF]
  | succ f => rw [lexF, if_pos ha]; simp
theorem drop_head {l : List UInt8} {a : Nat} (ha : a < l.length) : (l.drop a).headD 0 = l[a] := by
  rw [List.drop_eq_getElem_cons ha]; rfl
theorem PlainSt.fuel1 {l : List UInt8} {a f L la : Nat} {ds : List (Nat × Tk)} (h : PlainSt l a f L la ds) (ha : a < l.length) : ∃ g, f = g + 1 := ⟨f - 1, by have := h.fuel; omega⟩
theorem PlainSt.blank {l : List UInt8} {a f L la : Nat} {ds : List (Nat × Tk)} (h : PlainSt l a f L la ds) (ha : a < l.length) (hb : isBlank l[a] = true) (h10 : l[a].toNat ≠ 10) : ∃ f', PlainSt l (a + 1) f' L la ds := by
  obtain ⟨g, rfl⟩ := h.fuel1 ha
  have e : lc (l.take (a + 1)) = ((lc (l.take a)).1, (lc (l.take a)).2 + 1) := by rw [lc_take_succ ha, lcF, if_neg h10]
  have h1 := h.fuel; have h2 := h.col; have h3 := h.len; have h4 := h.line
  refine ⟨g, ha, by omega, by rw [e]; exact h4, by rw [e]; show la + ((lc (l.take a)).2 + 1) = _; omega, ?_, by omega⟩
  rw [h.lex, lexF, if_neg (by omega), drop_head ha, if_pos hb]
theorem PlainSt.newline {l : List UInt8} {a f L la : Nat} {ds : List (Nat × Tk)} (h : PlainSt l a f L la ds) (ha : a < l.length) (h10 : l[a].toNat = 10) : ∃ f', PlainSt l (a + 1) f' (L + 1) (a + 1) ds := by
  obtain ⟨g, rfl⟩ := h.fuel1 ha
  have e : lc (l.take (a + 1)) = ((lc (l.take a)).1 + 1, 1) := by rw [lc_take_succ ha, lcF, if_pos h10]
  have h1 := h.fuel; have h3 := h.len; have h4 := h.line
  refine ⟨g, ha, by omega, by rw [e, h4], by rw [e], ?_, by omega⟩
  rw [h.lex, lexF, if_neg (by omega), drop_head ha, if_pos (by simp [isBlank, h10])]
theorem PlainSt.note {l : List UInt8} {a f L la : Nat} {ds : List (Nat × Tk)} (h : PlainSt l a f L la ds) (ha : a < l.length) (h35 : l[a].toNat = 35) : ∃ f', PlainSt l (a + runLen isNote (l.drop a)) f' L la ds := by
  obtain ⟨g, rfl⟩ := h.fuel1 ha
  have hr := runLen_le isNote (l.drop a)
  rw [List.length_drop] at hr
  have hp : 0 < runLen isNote (l.drop a) := by
    rw [List.drop_eq_getElem_cons ha, runLen, List.takeWhile_cons, if_pos (by simp [isNote, h35])]; simp
  have e := lc_take_run (l := l) (a := a) (n := runLen isNote (l.drop a)) (by rw [← takeWhile_take]; exact all_takeWhile _ _) (by omega)
  have h1 := h.fuel; have h2 := h.col; have h3 := h.len; have h4 := h.line
  refine ⟨g, by omega, by omega, by rw [e]; exact h4, by rw [e]; show la + ((lc (l.take a)).2 + _) = _; omega, ?_, by omega⟩
  rw [h.lex, lexF, if_neg (by omega), drop_head ha, if_neg (by simp [isBlank, h35]), if_pos h35]
theorem PlainSt.token {l : List UInt8} {a f L la : Nat} {ds : List (Nat × Tk)} (h : PlainSt l a f L la ds) (ha : a < l.length) (hb : isBlank l[a] = false) (h35 : l[a].toNat ≠ 35) (he : oneE (l.drop a) = 0) :
    ∃ f', PlainSt l (a + oneN (l.drop a)) f' L la (ds ++ [(a, tokAt l a)]) := by
  obtain ⟨g, rfl⟩ := h.fuel1 ha
  have hr := oneN_le (l.drop a)
  rw [List.length_drop] at hr
  have hp := oneN_pos (r := l.drop a) (by intro e; have := congrArg List.length e; rw [List.length_drop] at this; simp at this; omega) he
  have e := lc_take_run (l := l) (a := a) (n := oneN (l.drop a)) (oneT_note _) (by omega)
  have h1 := h.fuel; have h2 := h.col; have h3 := h.len; have h4 := h.line
  refine ⟨g, by omega, by omega, by rw [e]; exact h4, by rw [e]; show la + ((lc (l.take a)).2 + _) = _; omega, ?_, by simp; omega⟩
  rw [h.lex, lexF, if_neg (by omega), drop_head ha, if_neg (by simp [hb]), if_neg h35, if_neg (by simp [he]), oneT_len]
  simp
theorem PlainSt.wrong {l : List UInt8} {a f L la : Nat} {ds : List (Nat × Tk)} (h : PlainSt l a f L la ds) (ha : a < l.length) (hb : isBlank l[a] = false) (h35 : l[a].toNat ≠ 35) (he : oneE (l.drop a) ≠ 0) : lexAll l = (ds, some (a, oneE (l.drop a))) := by
  obtain ⟨g, rfl⟩ := h.fuel1 ha
  rw [h.lex, lexF, if_neg (by omega), drop_head ha, if_neg (by simp [hb]), if_neg h35, if_pos he]
  simp
theorem PlainSt.tok_eq {l : List UInt8} {a f L la : Nat} {ds : List (Nat × Tk)} (h : PlainSt l a f L la ds) : ∃ C, tokAt l a = ⟨oneK (l.drop a), oneT (l.drop a), oneX (l.drop a), L, C⟩ ∧ (C : Int) = (a : Int) - (la : Int) + 1 ∧ L ≤ a + 1 ∧ la ≤ a := by
  have h1 := lc_le (l.take a)
  have h2 := h.col
  have h3 := h.line
  have h4 := h.le
  rw [List.length_take] at h1
  exact ⟨(lc (l.take a)).2, by rw [tokAt, h3], by omega, by omega, by omega⟩
theorem PlainSt.bounds {l : List UInt8} {a f L la : Nat} {ds : List (Nat × Tk)} (h : PlainSt l a f L la ds) : L ≤ a + 1 ∧ la ≤ a ∧ ds.length ≤ a := by
  obtain ⟨C, _, _, h1, h2⟩ := h.tok_eq
  exact ⟨h1, h2, h.len⟩

theorem But.setNew {g : Nat} {a w : World} (h : But g a w) {p : Addr} (hp : a.heap.size ≤ p.block) (v : Value) : But g a (w.setCell p v) :=
  ⟨h.os, h.tape, h.output, by simp [World.setCell]; exact h.size, fun k hk hn => by
    rw [Below.heap_setCell _ _ _ _ (by omega)]; exact h.block k hk hn⟩
theorem But.later {g : Nat} {a w w' : World} (h : But g a w) (hb : Below w.heap.size w w') : But g a w' := h.trans (But.of_below hb)

/-- what the token's makers answer -/
theorem word_drop (s : ByteArray) (a : Nat) (_h : isPart ((s.data.toList.drop a).headD 0) = true) : (s.extract a (a + runLen isPart (s.data.toList.drop a))).data.toList = (s.data.toList.drop a).takeWhile isPart := by
  rw [Lib.extract_data, takeWhile_take, Nat.add_sub_cancel_left]
theorem word_ok {s : ByteArray} {a : Nat} (h : isPart ((s.data.toList.drop a).headD 0) = true) (he : oneE (s.data.toList.drop a) = 0) :
    wordV (s.extract a (a + runLen isPart (s.data.toList.drop a))) = .returned (.tuple #[.agg #[.int .i64 (oneK (s.data.toList.drop a)), .string (str (oneT (s.data.toList.drop a))), .int .u64 (oneX (s.data.toList.drop a)), .int .i64 0, .int .i64 0], .int .i64 0]) := by
  have e1 : wordE ((s.data.toList.drop a).takeWhile isPart) = 0 := by rw [oneE, if_pos h] at he; exact he
  refine word_of ?_ ?_ ?_ ?_
  · rw [word_drop s a h, oneK, if_pos h]
  · rw [word_drop s a h, oneX, if_pos h]
  · rw [word_drop s a h, e1]
  · rw [word_drop s a h, oneT, if_pos h, wordT, if_pos e1]
theorem word_er {s : ByteArray} {a : Nat} (h : isPart ((s.data.toList.drop a).headD 0) = true) (_he : oneE (s.data.toList.drop a) ≠ 0) :
    ∃ (k : Nat) (t : ByteArray) (x : Nat), wordV (s.extract a (a + runLen isPart (s.data.toList.drop a))) = .returned (.tuple #[.agg #[.int .i64 k, .string t, .int .u64 x, .int .i64 0, .int .i64 0], .int .i64 (oneE (s.data.toList.drop a))]) :=
  ⟨_, _, _, word_of rfl rfl (by rw [word_drop s a h, oneE, if_pos h]) rfl⟩
theorem sign_drop (s : ByteArray) (a : Nat) : (s.extract a s.size).data.toList = s.data.toList.drop a := Lib.extract_to_end s a
theorem sign_ok {s : ByteArray} {a : Nat} (h : isPart ((s.data.toList.drop a).headD 0) = false) (he : oneE (s.data.toList.drop a) = 0) :
    signV (s.extract a s.size) = .returned (.tuple #[.agg #[.int .i64 (oneK (s.data.toList.drop a)), .string (str (oneT (s.data.toList.drop a))), .int .u64 (oneX (s.data.toList.drop a)), .int .i64 0, .int .i64 0], .int .i64 0]) := by
  have e1 : signLen (s.data.toList.drop a) ≠ 0 := by
    intro e0
    rw [oneE, h, if_neg (by decide), if_pos e0] at he; cases he
  have e2 : (s.extract a s.size).extract 0 (signLen (s.data.toList.drop a)) = str ((s.data.toList.drop a).take (signLen (s.data.toList.drop a))) := bytes_ext (by rw [extract_take, sign_drop]; rfl)
  rw [signV, sign_drop, if_neg e1, e2, oneK, oneT, oneX, h]; rfl
theorem sign_er {s : ByteArray} {a : Nat} (h : isPart ((s.data.toList.drop a).headD 0) = false) (he : oneE (s.data.toList.drop a) ≠ 0) :
    signV (s.extract a s.size) = .returned (.tuple #[.agg #[.int .i64 0, .string ⟨#[]⟩, .int .u64 0, .int .i64 0, .int .i64 0], .int .i64 15]) ∧ oneE (s.data.toList.drop a) = 15 := by
  have e1 : signLen (s.data.toList.drop a) = 0 := by
    rw [oneE, h, if_neg (by decide)] at he
    by_cases h0 : signLen (s.data.toList.drop a) = 0
    · exact h0
    · rw [if_neg h0] at he; exact absurd rfl he
  exact ⟨signV_no (by rw [sign_drop]; exact e1), by rw [oneE, h, if_neg (by decide), if_pos e1]⟩

/-- what lies in memory -/
structure WorldSt (s : ByteArray) (w wr : World) (B c ba bt m a : Nat) (ts : List Tk) : Prop where
  toks : TokL wr B c ts
  atc : wr.heap[ba]? = some (.cells #[.int .i64 a] 3 (0, 0))
  txt : wr.heap[bt]? = some (.cells #[.string s] 9 (0, 0))
  mp : wr.heap[m]? = some (smap signT)
  keep : Kp B c w wr
  ne1 : ba ≠ c
  ne2 : bt ≠ ba
  ne3 : m ≠ ba
  bB : B ≤ w.heap.size ∧ B ≤ c ∧ w.heap.size ≤ ba
theorem WorldSt.move {s : ByteArray} {w wr w2 : World} {B c ba bt m a a' : Nat} {ts : List Tk} (h : WorldSt s w wr B c ba bt m a ts) (hb : But ba wr w2) (ha : w2.heap[ba]? = some (.cells #[.int .i64 a'] 3 (0, 0))) : WorldSt s w w2 B c ba bt m a' ts :=
  ⟨h.toks.but h.atc (by show 3 ≠ 52; decide) h.ne1 hb, ha, (hb.block bt (lt_of_block h.txt) h.ne2).trans h.txt, (hb.block m (lt_of_block h.mp) h.ne3).trans h.mp,
   ⟨hb.os.trans h.keep.os, hb.tape.trans h.keep.tape, hb.output.trans h.keep.output, Nat.le_trans h.keep.size hb.size, fun k o hk hn hor => by
      have hlt := lt_of_block hk
      have h1 := h.keep.block k o hk hn hor
      exact (hb.block k (lt_of_block h1) (by have := h.bB; omega)).trans h1⟩,
   h.ne1, h.ne2, h.ne3, h.bB⟩
theorem WorldSt.show {s : ByteArray} {w wr w2 : World} {B c ba bt m a : Nat} {ts ts' : List Tk} (h : WorldSt s w wr B c ba bt m a ts) (hT : TokL w2 B c ts') (hk : Kp B c wr w2) (h2 : bt ≠ c) (h3 : m ≠ c) : WorldSt s w w2 B c ba bt m a ts' :=
  ⟨hT, hk.block _ _ h.atc h.ne1 (.inr (by show 3 ≠ 52; decide)), hk.block _ _ h.txt h2 (.inr (by show 9 ≠ 52; decide)), hk.block _ _ h.mp h3 (.inr trivial), h.keep.trans hk, h.ne1, h.ne2, h.ne3, h.bB⟩
/-- a token's five cells, laid anew -/
structure TokCells (w : World) (g : Nat) (v0 v1 v2 v3 v4 : Value) : Prop where
  c0 : w.cell? ⟨g, 0, none⟩ = some v0
  c1 : w.cell? ⟨g, 1, none⟩ = some v1
  c2 : w.cell? ⟨g, 2, none⟩ = some v2
  c3 : w.cell? ⟨g, 3, none⟩ = some v3
  c4 : w.cell? ⟨g, 4, none⟩ = some v4
  z0 : w.frozen? ⟨g, 0, none⟩ = false
  z1 : w.frozen? ⟨g, 1, none⟩ = false
  z2 : w.frozen? ⟨g, 2, none⟩ = false
  z3 : w.frozen? ⟨g, 3, none⟩ = false
  z4 : w.frozen? ⟨g, 4, none⟩ = false
theorem TokCells.set {w : World} {g : Nat} {u0 u1 u2 u3 u4 : Value} (h : TokCells w g u0 u1 u2 u3 u4) (v0 v1 v2 v3 v4 : Value) :
    TokCells (((((w.setCell ⟨g, 0, none⟩ v0).setCell ⟨g, 1, none⟩ v1).setCell ⟨g, 2, none⟩ v2).setCell ⟨g, 3, none⟩ v3).setCell ⟨g, 4, none⟩ v4) g v0 v1 v2 v3 v4 := by
  obtain ⟨c0, c1, c2, c3, c4, z0, z1, z2, z3, z4⟩ := h
  constructor <;> simp [go_sem, c0, c1, c2, c3, c4, z0, z1, z2, z3, z4]
theorem TokCells.place {w : World} {g : Nat} {u0 u1 u2 u3 u4 : Value} (h : TokCells w g u0 u1 u2 u3 u4) (v3 v4 : Value) :
    TokCells ((w.setCell ⟨g, 3, none⟩ v3).setCell ⟨g, 4, none⟩ v4) g u0 u1 u2 v3 v4 := by
  obtain ⟨c0, c1, c2, c3, c4, z0, z1, z2, z3, z4⟩ := h
  constructor <;> simp [go_sem, c0, c1, c2, c3, c4, z0, z1, z2, z3, z4]
theorem heap_5 (w : World) (g k : Nat) (hk : k ≠ g) (v0 v1 v2 v3 v4 : Value) : ((((((w.setCell ⟨g, 0, none⟩ v0).setCell ⟨g, 1, none⟩ v1).setCell ⟨g, 2, none⟩ v2).setCell ⟨g, 3, none⟩ v3).setCell ⟨g, 4, none⟩ v4)).heap[k]? = w.heap[k]? := by
  rw [Below.heap_setCell _ _ _ _ hk, Below.heap_setCell _ _ _ _ hk, Below.heap_setCell _ _ _ _ hk, Below.heap_setCell _ _ _ _ hk, Below.heap_setCell _ _ _ _ hk]
theorem heap_2 (w : World) (g k i j : Nat) (hk : k ≠ g) (v3 v4 : Value) : ((w.setCell ⟨g, i, none⟩ v3).setCell ⟨g, j, none⟩ v4).heap[k]? = w.heap[k]? := by
  rw [Below.heap_setCell _ _ _ _ hk, Below.heap_setCell _ _ _ _ hk]
theorem TokCells.later {wr w2 : World} {ba : Nat} {o : Obj} (hbaz : ba < wr.heap.size) (hB : But ba (wr.alloc o) w2) {v0 v1 v2 v3 v4 : Value} (h : TokCells (wr.alloc o) wr.heap.size v0 v1 v2 v3 v4) : TokCells w2 wr.heap.size v0 v1 v2 v3 v4 := by
  obtain ⟨c0, c1, c2, c3, c4, z0, z1, z2, z3, z4⟩ := h
  have hn : wr.heap.size ≠ ba := Nat.ne_of_gt hbaz
  have hz : wr.heap.size < (wr.alloc o).heap.size := by simp
  exact ⟨(hB.cell (p := ⟨wr.heap.size, 0, none⟩) hz hn).trans c0, (hB.cell (p := ⟨wr.heap.size, 1, none⟩) hz hn).trans c1, (hB.cell (p := ⟨wr.heap.size, 2, none⟩) hz hn).trans c2, (hB.cell (p := ⟨wr.heap.size, 3, none⟩) hz hn).trans c3, (hB.cell (p := ⟨wr.heap.size, 4, none⟩) hz hn).trans c4,
    (hB.frozen (p := ⟨wr.heap.size, 0, none⟩) hz hn).trans z0, (hB.frozen (p := ⟨wr.heap.size, 1, none⟩) hz hn).trans z1, (hB.frozen (p := ⟨wr.heap.size, 2, none⟩) hz hn).trans z2, (hB.frozen (p := ⟨wr.heap.size, 3, none⟩) hz hn).trans z3, (hB.frozen (p := ⟨wr.heap.size, 4, none⟩) hz hn).trans z4⟩
theorem TokCells.other {w : World} {g b : Nat} {u0 u1 u2 u3 u4 : Value} (h : TokCells w g u0 u1 u2 u3 u4) (hn : g ≠ b) (v : Value) : TokCells (w.setCell ⟨b, 0, none⟩ v) g u0 u1 u2 u3 u4 := by
  obtain ⟨c0, c1, c2, c3, c4, z0, z1, z2, z3, z4⟩ := h
  have hne : ∀ i : Nat, (⟨b, 0, none⟩ : Addr) ≠ ⟨g, i, none⟩ := fun i e => hn (by cases e; rfl)
  exact ⟨(World.cell?_setCell_other _ _ _ _ (hne 0)).trans c0, (World.cell?_setCell_other _ _ _ _ (hne 1)).trans c1, (World.cell?_setCell_other _ _ _ _ (hne 2)).trans c2, (World.cell?_setCell_other _ _ _ _ (hne 3)).trans c3, (World.cell?_setCell_other _ _ _ _ (hne 4)).trans c4,
    by rw [World.frozen?_setCell]; exact z0, by rw [World.frozen?_setCell]; exact z1, by rw [World.frozen?_setCell]; exact z2, by rw [World.frozen?_setCell]; exact z3, by rw [World.frozen?_setCell]; exact z4⟩
theorem TokCells.new (w : World) : TokCells (w.alloc (.cells #[.int .i64 0, .string ⟨#[]⟩, .int .u64 0, .int .i64 0, .int .i64 0] 52)) w.heap.size (.int .i64 0) (.string ⟨#[]⟩) (.int .u64 0) (.int .i64 0) (.int .i64 0) := by
  constructor <;> simp [go_sem]
end Go.Proofs.YtgffiggnmklcoaaGreatDoor
