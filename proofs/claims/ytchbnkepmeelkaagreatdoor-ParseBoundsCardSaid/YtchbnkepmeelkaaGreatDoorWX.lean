/- W4, W5, W6a, W6b, W6c as one. -/
import Derived.Test.YtchbnkepmeelkaaGreatDoorPD
import Derived.Test.YtchbnkepmeelkaaGreatDoorLF
import Derived.Test.YtchbnkepmeelkaaGreatDoorPH
import Derived.Recover
/- A parser of a text. -/
namespace Go.Proofs.YtchbnkepmeelkaaGreatDoor
open Go.RowKit

def toTok (t : Lx.Tk) : Tok := ⟨t.kind, t.text, t.word, t.line, t.col⟩
/-- the tokens of a text, and the end behind them -/
def endTok (l : List UInt8) : Tok := ⟨0, [], 0, (Lx.lc l).1, (Lx.lc l).2⟩
def toksOf (l : List UInt8) : List Tok := (Lx.allT l).map toTok ++ [endTok l]
theorem eq_fault_bad (a b c : Int) (h : a ≠ 0) (w : World) : (binOp .neq 29 (.agg #[.int .i64 a, .int .i64 b, .int .i64 c]) (.agg #[.int .i64 0, .int .i64 0, .int .i64 0])).run Tryz.prog w = .ok (.bool true) w := by
  have hb : (a == 0) = false := by simpa using h
  have ht := Tryz.underlying29
  simp [go_sem, hb]
theorem eq_fault_good (w : World) : (binOp .neq 29 (.agg #[.int .i64 0, .int .i64 0, .int .i64 0]) (.agg #[.int .i64 0, .int .i64 0, .int .i64 0])).run Tryz.prog w = .ok (.bool false) w := by kernel_rfl
theorem info_tok : (Tryz.prog.info? 156).map (fun i => (i.zero, i.size, i.bytes)) = some (some (.agg #[.int .i64 0, .string ByteArray.empty, .int .u64 0, .int .i64 0, .int .i64 0]), 5, 48) := by kernel_rfl
theorem allF_bad {l : List UInt8} (h : (Lx.allF l).1 = 0) : Lx.allF l = (0, 0, 0) := by
  unfold Lx.allF at h ⊢
  split at h
  · cases h
  · rename_i hl
    rw [if_neg hl]
    cases he : (Lx.lexAll l).2 with
    | none => rfl
    | some x =>
      obtain ⟨a, e⟩ := x
      rw [he] at h
      have := Lx.lexF_err l l.length 0 a e he
      simp only at h
      omega
theorem toksC_at {ts : List Lx.Tk} : ∀ {i : Nat} {t : Lx.Tk}, ts[i]? = some t → ∀ {j : Nat} {v : Value}, (Lx.tokC t)[j]? = some v → (Lx.toksC ts)[i * 5 + j]? = some v := by
  induction ts with
  | nil => intro i t h; simp at h
  | cons x r ih =>
    intro i t h j v hv
    have hj : j < 5 := by
      have := (List.getElem?_eq_some_iff.1 hv).1
      simpa [Lx.tokC] using this
    have hl : (Lx.tokC x).length = 5 := rfl
    rw [show Lx.toksC (x :: r) = Lx.tokC x ++ Lx.toksC r by simp [Lx.toksC]]
    cases i with
    | zero =>
      simp at h
      subst h
      rw [Nat.zero_mul, Nat.zero_add, List.getElem?_append_left (by omega)]
      exact hv
    | succ i =>
      rw [List.getElem?_append_right (by rw [hl]; omega), hl, show (i + 1) * 5 + j - 5 = i * 5 + j by omega]
      exact ih (by simpa using h) hv
/-- a row of tokens, read as the parser reads it -/
theorem tkAt_row {w : World} {B g cap : Nat} {ts : List Lx.Tk} (h : w.ownsRow B 156 5 (.slice (some ⟨g, 0, none⟩) ts.length cap) ts.length (Lx.toksC ts)) : ∀ i t, (ts.map toTok)[i]? = some t → TkAt w t g (0 + i * 5) := by
  intro i t ht
  rw [List.getElem?_map] at ht
  cases hx : ts[i]? with
  | none => rw [hx] at ht; cases ht
  | some x =>
    rw [hx] at ht
    cases ht
    have hc := World.ownsRow.cells h (g := g) rfl
    have f : ∀ j v, (Lx.tokC x)[j]? = some v → w.cell? ⟨g, 0 + i * 5 + j, none⟩ = some v := fun j v hv => by
      have := hc _ _ (toksC_at hx hv)
      rw [add_of] at this
      rw [show 0 + i * 5 + j = 0 + (i * 5 + j) by omega]
      exact this
    exact ⟨f 0 _ rfl, f 1 _ rfl, f 2 _ rfl, f 3 _ rfl, f 4 _ rfl⟩
set_option maxRecDepth 100000 in
set_option maxHeartbeats 3200000 in
theorem newParser_no (s : ByteArray) (w : World) (hs : s.size ≤ 281474976710656) (hG : Lx.Glob w) (hE : (Lx.allF s.data.toList).1 ≠ 0) :
    Calls Tryz.prog 86 #[.string s] w fun z w' => z = WrongIs ((Lx.allF s.data.toList).1 : Int) ⟨0, [], 0, (Lx.allF s.data.toList).2.1, (Lx.allF s.data.toList).2.2⟩ ∧ Below w.heap.size w w' := by
  have HA := Lib.hid (Lx.all_any s w hs hG)
  have hne := eq_fault_bad ((Lx.allF s.data.toList).1 : Int) ((Lx.allF s.data.toList).2.1 : Int) ((Lx.allF s.data.toList).2.2 : Int) (by omega)
  unfold Lx.AllIs at HA
  generalize ((Lx.allF s.data.toList).1 : Int) = a at *
  generalize (Lx.allF s.data.toList).2.1 = b at *
  generalize (Lx.allF s.data.toList).2.2 = c at *
  clear hG hs hE
  unfold WrongIs
  go_enter Tryz.func86, Tryz.ntmps86
  go_wp2_with fail
  refine HA.out.mono ?_
  rintro z w1 ⟨⟨v, rfl, hrow⟩, hB1⟩
  obtain ⟨A1, hA1⟩ : ∃ A, w1.alloc (.cells #[.int .i64 a, .int .i64 (b : Int), .int .i64 (c : Int)] 29) = A := ⟨_, rfl⟩
  have hk1 : A1.heap[w1.heap.size]? = some (.cells #[.int .i64 a, .int .i64 (b : Int), .int .i64 (c : Int)] 29 (0, 0)) := by rw [← hA1]; exact heap_alloc_new w1 _
  have HB1 := Lib.hid (show Below w.heap.size w A1 by rw [← hA1]; exact hB1.alloc hB1.size _)
  have d0 := cell_blk hk1 (j := 0) rfl
  have d1 := cell_blk hk1 (j := 1) rfl
  have d2 := cell_blk hk1 (j := 2) rfl
  have HA1 := Lib.hid hA1
  clear hB1 hk1 hA1 hrow
  go_upto_region 2 with fail
  rw [HA1.out]
  go_wp2_with fail
  exact ⟨rfl, rfl, HB1.out⟩
set_option maxRecDepth 100000 in
set_option maxHeartbeats 3200000 in
theorem newParser_yes (s : ByteArray) (w : World) (hs : s.size ≤ 281474976710656) (hG : Lx.Glob w) (hE : (Lx.allF s.data.toList).1 = 0) (hl : (Lx.allT s.data.toList).length ≤ 65536) :
    Calls Tryz.prog 86 #[.string s] w fun z w' => ∃ pb tb tc, z = .returned (.pointer (some ⟨pb, 0, none⟩)) ∧ Ps w' pb tb 0 tc (toksOf s.data.toList) 0 0 ∧ Below w.heap.size w w' ∧ w.heap.size ≤ pb := by
  obtain ⟨i0, hi, hz0, hz1, hz2⟩ := info_parts info_tok
  have h6 := hG.2.2.2
  have HA := Lib.hid (Lx.all_any s w hs hG)
  unfold Lx.AllIs Lx.TokRow at HA
  rw [allF_bad hE] at HA
  have hne := eq_fault_good
  have HLn := Lib.hid (fun w' => Lx.line_any s (s.size : Int) w' hs (by omega) (by omega))
  have hcl : Lx.clampN (s.size : Int) s.size = s.size := by rw [Lx.clampN]; omega
  rw [hcl, show s.data.toList.take s.size = s.data.toList from List.take_of_length_le (by rw [← size_len]; exact Nat.le_refl _)] at HLn
  unfold toksOf endTok
  generalize Lx.allT s.data.toList = T at *
  generalize (Lx.lc s.data.toList).1 = L at *
  generalize (Lx.lc s.data.toList).2 = C at *
  have HL := Lib.hid hl
  clear hG hcl hE hl h6
  go_enter Tryz.func86, Tryz.ntmps86
  go_wp2_with fail
  refine HA.out.mono ?_
  rintro z w1 ⟨⟨v, rfl, hrow⟩, hB1⟩
  obtain ⟨A1, hA1⟩ : ∃ A, w1.alloc (.cells #[.int .i64 0, .int .i64 0, .int .i64 0] 29) = A := ⟨_, rfl⟩
  have hk1 : A1.heap[w1.heap.size]? = some (.cells #[.int .i64 0, .int .i64 0, .int .i64 0] 29 (0, 0)) := by rw [← hA1]; exact heap_alloc_new w1 _
  have hBA : Below w1.heap.size w1 A1 := by rw [← hA1]; exact (Below.refl _ _).alloc (Nat.le_refl _) _
  have HB1 := Lib.hid (show Below w.heap.size w A1 by rw [← hA1]; exact hB1.alloc hB1.size _)
  have HO1 := Lib.hid (own_bel hrow hBA)
  have d0 := cell_blk hk1 (j := 0) rfl
  have d1 := cell_blk hk1 (j := 1) rfl
  have d2 := cell_blk hk1 (j := 2) rfl
  have HA1 := Lib.hid hA1
  clear hB1 hk1 hA1 hrow hBA HA
  go_upto_region 2 with fail
  try rw [HA1.out]
  go_wp2_with fail
  refine (HLn.out _).mono ?_
  rintro z w2 ⟨rfl, hB2⟩
  have HB2 := Lib.hid (HB1.out.trans (hB2.mono HB1.out.size))
  have HO2 := Lib.hid (own_bel HO1.out hB2)
  clear hB2 d0 d1 d2
  obtain ⟨A3, hA3⟩ : ∃ A, w2.alloc (.cells #[.int .i64 0, .string ⟨#[]⟩, .int .u64 0, .int .i64 (L : Int), .int .i64 (C : Int)] 156) = A := ⟨_, rfl⟩
  have hBA : Below w2.heap.size w2 A3 := by rw [← hA3]; exact (Below.refl _ _).alloc (Nat.le_refl _) _
  have HCA := Lib.hid (show A3.heap[w2.heap.size]? = some (.cells #[.int .i64 0, .string ⟨#[]⟩, .int .u64 0, .int .i64 (L : Int), .int .i64 (C : Int)] 156 (0, 0)) by rw [← hA3]; exact heap_alloc_new w2 _)
  have HB3 := Lib.hid (HB2.out.trans (hBA.mono HB2.out.size))
  have HO3 := Lib.hid (own_bel HO2.out hBA)
  have HA3 := Lib.hid hA3
  have hbase : w.heap.size ≤ A3.heap.size := HB3.out.size
  clear hBA hA3
  go_wp2_with (at_builtin; (try rw [HA3.out]); refine wpList_append_own_at _ rfl _ _ 85 rfl w.heap.size 156 i0 (.agg #[.int .i64 0, .string ByteArray.empty, .int .u64 0, .int .i64 0, .int .i64 0]) 5 48 Tryz.underlying85 hi hz0 hz1 hz2 rfl (by decide) _ _ _ rfl HO3.out ⟨w2.heap.size, 0, none⟩ 1 1 [.int .i64 0, .string ⟨#[]⟩, .int .u64 0, .int .i64 (L : Int), .int .i64 (C : Int)] rfl rfl ?c1 ?c2 ?c3 ?c4 hbase ?_)
  case c1 =>
    intro j u hj
    have := cell_blk HCA.out (j := j) (v := u) (by rw [← Array.getElem?_toList]; exact hj)
    rw [add_of, Nat.zero_add]
    exact this
  case c2 =>
    intro u hu
    simp only [List.mem_cons, List.not_mem_nil, or_false] at hu
    rcases hu with rfl | rfl | rfl | rfl | rfl <;> rfl
  case c3 => have := HL.out; unfold maxLen; omega
  case c4 => have := HL.out; omega
  intro v' w4 hown4 hgrow _ _
  have HB4 := Lib.hid (show Below w.heap.size w w4 from HB3.out.grown hgrow hbase (fun j hj => (HO3.out.lt j hj).1))
  obtain ⟨g, cap, cur, rfl, hg, hh, hr⟩ : ∃ g cap cur, v' = .slice (some ⟨g, 0, none⟩) (T.length + 1) cap ∧ w.heap.size ≤ g ∧ w4.heap[g]? = some (.cells cur 156 (0, 0)) ∧ True := by
    rcases hown4.2 with ⟨_, h0⟩ | ⟨g, cap, cur, h1, h2, h3, _⟩
    · omega
    · exact ⟨g, cap, cur, h1, h2, h3, trivial⟩
  have HO4 := Lib.hid hown4
  have HG4 := Lib.hid (And.intro hg (Array.getElem?_eq_some_iff.1 hh).1)
  obtain ⟨A5, hA5⟩ : ∃ A, w4.alloc (.cells #[.slice (some ⟨g, 0, none⟩) (T.length + 1) cap, .int .i64 0, .int .i64 0] 201) = A := ⟨_, rfl⟩
  have hB5 : Below w4.heap.size w4 A5 := by rw [← hA5]; exact (Below.refl _ _).alloc (Nat.le_refl _) _
  have hk5 : A5.heap[w4.heap.size]? = some (.cells #[.slice (some ⟨g, 0, none⟩) (T.length + 1) cap, .int .i64 0, .int .i64 0] 201 (0, 0)) := by rw [← hA5]; exact heap_alloc_new w4 _
  have HF := Lib.hid (show Ps A5 w4.heap.size g 0 cap (T.map toTok ++ [(⟨0, [], 0, L, C⟩ : Tok)]) 0 0 from by
    refine ⟨?_, ?_, Nat.ne_of_lt HG4.out.2, ?_, ?_⟩
    · rw [hk5]; simp
    · have hmap : T.map toTok ++ [(⟨0, [], 0, L, C⟩ : Tok)] = (T ++ [(⟨0, [], 0, L, C⟩ : Lx.Tk)]).map toTok := by simp [toTok]
      rw [hmap]
      refine tkAt_row (w := A5) (B := w.heap.size) (g := g) (cap := cap) (ts := T ++ [(⟨0, [], 0, L, C⟩ : Lx.Tk)]) ?_
      have := own_bel HO4.out hB5
      rw [Lx.toksC_snoc, List.length_append]
      exact this
    · exact Nat.lt_of_lt_of_le HG4.out.2 hB5.size
    · have := HL.out; simp; omega)
  have HBz := Lib.hid (HB4.out.trans (hB5.mono HB4.out.size))
  have HZ4 := Lib.hid HB4.out.size
  have HA5 := Lib.hid hA5
  clear hown4 hgrow hg hh hr hB5 hk5 hA5
  go_wp2_with fail
  try rw [HA5.out]
  go_ret
  exact ⟨_, _, _, rfl, HF.out, HBz.out, HZ4.out⟩
end Go.Proofs.YtchbnkepmeelkaaGreatDoor
/- What a text's tokens are: few, their numbers words. -/
namespace Go.Proofs.YtchbnkepmeelkaaGreatDoor
open Go.RowKit

theorem wordX_lt (r : List UInt8) : Lx.wordX r < 18446744073709551616 := by
  unfold Lx.wordX
  split
  · unfold Lx.numV
    split
    · rename_i h
      simp only [Lx.numB, Bool.and_eq_true, decide_eq_true_eq, Lx.lim64_eq] at h
      exact h.2
    · decide
  · decide
theorem oneX_lt (r : List UInt8) : Lx.oneX r < 18446744073709551616 := by
  unfold Lx.oneX
  split
  · exact wordX_lt _
  · decide
theorem lexF_few (l : List UInt8) : ∀ f a, (Lx.lexF l f a).1.length ≤ f ∧ ∀ x ∈ (Lx.lexF l f a).1, x.2.word < 18446744073709551616
  | 0, a => ⟨Nat.le_refl _, fun _ h => by cases h⟩
  | f + 1, a => by
    unfold Lx.lexF
    split
    · exact ⟨Nat.zero_le _, fun _ h => by cases h⟩
    split
    · have := lexF_few l f (a + 1)
      exact ⟨Nat.le_succ_of_le this.1, this.2⟩
    split
    · have := lexF_few l f (a + Lx.runLen Lx.isNote (l.drop a))
      exact ⟨Nat.le_succ_of_le this.1, this.2⟩
    split
    · exact ⟨Nat.zero_le _, fun _ h => by cases h⟩
    · have := lexF_few l f (a + (Lx.oneT (l.drop a)).length)
      refine ⟨by simp only [List.length_cons]; omega, fun x hx => ?_⟩
      rcases List.mem_cons.1 hx with rfl | hx
      · exact oneX_lt _
      · exact this.2 x hx
theorem allT_few (l : List UInt8) : (Lx.allT l).length ≤ 65536 ∧ ∀ x ∈ Lx.allT l, x.word < 18446744073709551616 := by
  unfold Lx.allT
  split
  · exact ⟨Nat.zero_le _, fun _ h => by cases h⟩
  · rename_i hl
    split
    · have := lexF_few l l.length 0
      refine ⟨by rw [List.length_map]; have h := this.1; unfold Lx.lexAll; omega, fun x hx => ?_⟩
      obtain ⟨y, hy, rfl⟩ := List.mem_map.1 hx
      exact this.2 y hy
    · exact ⟨Nat.zero_le _, fun _ h => by cases h⟩
theorem toks_ends (l : List UInt8) : Ends (toksOf l) := ⟨endTok l, by unfold toksOf; rw [List.length_append, List.length_singleton, Nat.add_sub_cancel, List.getElem?_append_right (by simp)]; simp, rfl, rfl⟩
theorem toks_words (l : List UInt8) : Words (toksOf l) := fun t ht => by
  rcases List.mem_append.1 ht with h | h
  · obtain ⟨x, hx, rfl⟩ := List.mem_map.1 h
    exact (allT_few l).2 x hx
  · cases List.mem_singleton.1 h
    exact (by decide : (0 : Nat) < 18446744073709551616)
theorem toks_few (l : List UInt8) : (toksOf l).length ≤ 100000 := by
  unfold toksOf
  have := (allT_few l).1
  simp
  omega
theorem toks_pos (l : List UInt8) : 0 < (toksOf l).length := by unfold toksOf; simp
/-- what is wrong with a text as a list of tokens, or what a plain function reads -/
def readP {α : Type} (what : List Tok → Res α) (l : List UInt8) : Res α :=
  if (Lx.allF l).1 = 0 then what (toksOf l) else .no (Lx.allF l).1 ⟨0, [], 0, (Lx.allF l).2.1, (Lx.allF l).2.2⟩
/-- a fault's cells -/
def faultR {α : Type} : Res α → Array Value
  | .ok _ _ => #[.int .i64 0, .int .i64 0, .int .i64 0]
  | .no c t => faultC (c : Int) (t.line : Int) (t.col : Int)
theorem faultC_form (a b c : Int) : ∃ x y z : Int, faultC a b c = #[.int .i64 x, .int .i64 y, .int .i64 z] := by
  by_cases h : a = 3
  · subst h; exact ⟨_, _, _, faultC_long b c⟩
  · exact ⟨_, _, _, faultC_any h b c⟩
theorem fault_form {α : Type} (r : Res α) : ∃ a b c : Int, faultR r = #[.int .i64 a, .int .i64 b, .int .i64 c] := by
  cases r with
  | ok _ _ => exact ⟨0, 0, 0, rfl⟩
  | no c t => exact faultC_form _ _ _
theorem not_nilW (v : Value) (W : World) : (binOp .eql 20 (.iface 166 v) .nilIface).run Tryz.prog W = .ok (.bool false) W := by kernel_rfl
theorem is_error (v : Value) (W : World) : (Instr.typeAssert (.iface 166 v) 20 124 true).run Tryz.prog W = .ok (.tuple #[.iface 166 v, .bool true]) W := run_typeAssert_hasB Tryz.underlying124 (by kernel_rfl) v 20 W
end Go.Proofs.YtchbnkepmeelkaaGreatDoor
/- What is done with a panic: the deferred closures. -/
namespace Go.Proofs.YtchbnkepmeelkaaGreatDoor
open Go.RowKit

set_option maxHeartbeats 1600000 in
theorem idle_prg (p : Addr) (w : World) :
    CallsD Tryz.prog 84 #[.pointer (some p)] .returning w fun e u' w' => e = .returned (.tuple #[]) ∧ u' = .returning ∧ w' = w := by
  refine callsD_of_wpS Tryz.func84 rfl fun c₀ cs hu => ?_
  apply wpS_seq
  apply wpS_region
  simp [wpOpsS, go_sem, recoverD, hu, Tryz.ntmps84, Exit.thenS]
  refine wpS_of_wp ?_
  go_wp2
  cases c₀
  simp_all [bodyPostS, results, Tryz.results84]
set_option maxRecDepth 100000 in
set_option maxHeartbeats 1600000 in
theorem caught_prg (g : Nat) (a b c : Int) (older : List PanicEntry) (w : World) (hG : Lx.Glob w) (hg : w.heap[g]? = some (.cells #[.int .i64 0, .int .i64 0, .int .i64 0] 29 (0, 0))) :
    CallsD Tryz.prog 84 #[.pointer (some ⟨g, 0, none⟩)] (.panicking ({ v := .iface 166 (.agg #[.int .i64 a, .int .i64 b, .int .i64 c]), recovered := false } :: older)) w fun e u' w' =>
      e = .returned (.tuple #[]) ∧ u' = .panicking ({ v := .iface 166 (.agg #[.int .i64 a, .int .i64 b, .int .i64 c]), recovered := true } :: older) ∧ (w'.heap[g]? = some (.cells (faultC a b c) 29 (0, 0)) ∧ But g w w') := by
  have HF := Lib.hid (faultOf_p a b c w hG)
  have HG := Lib.hid hg
  have h1 := not_nilW
  have h2 := is_error
  refine callsD_of_wpS Tryz.func84 rfl fun c₀ cs hu => ?_
  apply wpS_seq
  apply wpS_region
  simp [wpOpsS, go_sem, recoverD, hu, Tryz.ntmps84, Exit.thenS]
  refine wpS_of_wp ?_
  clear hG hg
  go_wp2_with fail
  refine HF.out.mono ?_
  rintro z w1 ⟨rfl, hB⟩
  have hk := (hB.block _ (Array.getElem?_eq_some_iff.1 HG.out).1).trans HG.out
  obtain ⟨x, y, v, hf⟩ := faultC_form a b c
  rw [hf]
  have HR := Lib.hid (And.intro (set3 hk (.int .i64 x) (.int .i64 y) (.int .i64 v)) (But.of_below (g := g) hB))
  have d0 := cell_blk hk (j := 0) rfl
  have d1 := cell_blk hk (j := 1) rfl
  have d2 := cell_blk hk (j := 2) rfl
  have hz : ∀ j, w1.frozen? ⟨g, j, none⟩ = false := fun j => by simp [World.frozen?, hk]
  have f0 := hz 0
  have f1 := hz 1
  have f2 := hz 2
  have HO := Lib.hid (fun (j : Nat) (v : Value) (W : World) => show But g W (W.setCell ⟨g, j, none⟩ v) from ⟨rfl, rfl, rfl, by simp [World.setCell], fun k _ hk => Below.heap_setCell _ _ _ _ hk⟩)
  have HFc := Lib.hid hf
  clear hz hk hB hf
  go_wp2_with fail
  cases c₀
  simp_all [bodyPostS, results, Tryz.results84]
  rw [HFc.out]
  exact ⟨HR.out.1, ((HR.out.2.trans (HO.out 0 _ _)).trans (HO.out 1 _ _)).trans (HO.out 2 _ _)⟩
end Go.Proofs.YtchbnkepmeelkaaGreatDoor
/- What is done with a panic: the deferred closures. -/
namespace Go.Proofs.YtchbnkepmeelkaaGreatDoor
open Go.RowKit

set_option maxHeartbeats 1600000 in
theorem idle_ex (p : Addr) (w : World) :
    CallsD Tryz.prog 99 #[.pointer (some p)] .returning w fun e u' w' => e = .returned (.tuple #[]) ∧ u' = .returning ∧ w' = w := by
  refine callsD_of_wpS Tryz.func99 rfl fun c₀ cs hu => ?_
  apply wpS_seq
  apply wpS_region
  simp [wpOpsS, go_sem, recoverD, hu, Tryz.ntmps99, Exit.thenS]
  refine wpS_of_wp ?_
  go_wp2
  cases c₀
  simp_all [bodyPostS, results, Tryz.results99]
set_option maxRecDepth 100000 in
set_option maxHeartbeats 1600000 in
theorem caught_ex (g : Nat) (a b c : Int) (older : List PanicEntry) (w : World) (hG : Lx.Glob w) (hg : w.heap[g]? = some (.cells #[.int .i64 0, .int .i64 0, .int .i64 0] 29 (0, 0))) :
    CallsD Tryz.prog 99 #[.pointer (some ⟨g, 0, none⟩)] (.panicking ({ v := .iface 166 (.agg #[.int .i64 a, .int .i64 b, .int .i64 c]), recovered := false } :: older)) w fun e u' w' =>
      e = .returned (.tuple #[]) ∧ u' = .panicking ({ v := .iface 166 (.agg #[.int .i64 a, .int .i64 b, .int .i64 c]), recovered := true } :: older) ∧ (w'.heap[g]? = some (.cells (faultC a b c) 29 (0, 0)) ∧ But g w w') := by
  have HF := Lib.hid (faultOf_p a b c w hG)
  have HG := Lib.hid hg
  have h1 := not_nilW
  have h2 := is_error
  refine callsD_of_wpS Tryz.func99 rfl fun c₀ cs hu => ?_
  apply wpS_seq
  apply wpS_region
  simp [wpOpsS, go_sem, recoverD, hu, Tryz.ntmps99, Exit.thenS]
  refine wpS_of_wp ?_
  clear hG hg
  go_wp2_with fail
  refine HF.out.mono ?_
  rintro z w1 ⟨rfl, hB⟩
  have hk := (hB.block _ (Array.getElem?_eq_some_iff.1 HG.out).1).trans HG.out
  obtain ⟨x, y, v, hf⟩ := faultC_form a b c
  rw [hf]
  have HR := Lib.hid (And.intro (set3 hk (.int .i64 x) (.int .i64 y) (.int .i64 v)) (But.of_below (g := g) hB))
  have d0 := cell_blk hk (j := 0) rfl
  have d1 := cell_blk hk (j := 1) rfl
  have d2 := cell_blk hk (j := 2) rfl
  have hz : ∀ j, w1.frozen? ⟨g, j, none⟩ = false := fun j => by simp [World.frozen?, hk]
  have f0 := hz 0
  have f1 := hz 1
  have f2 := hz 2
  have HO := Lib.hid (fun (j : Nat) (v : Value) (W : World) => show But g W (W.setCell ⟨g, j, none⟩ v) from ⟨rfl, rfl, rfl, by simp [World.setCell], fun k _ hk => Below.heap_setCell _ _ _ _ hk⟩)
  have HFc := Lib.hid hf
  clear hz hk hB hf
  go_wp2_with fail
  cases c₀
  simp_all [bodyPostS, results, Tryz.results99]
  rw [HFc.out]
  exact ⟨HR.out.1, ((HR.out.2.trans (HO.out 0 _ _)).trans (HO.out 1 _ _)).trans (HO.out 2 _ _)⟩
end Go.Proofs.YtchbnkepmeelkaaGreatDoor
/- What is done with a panic: the deferred closures. -/
namespace Go.Proofs.YtchbnkepmeelkaaGreatDoor
open Go.RowKit

set_option maxHeartbeats 1600000 in
theorem idle_sts (p : Addr) (w : World) :
    CallsD Tryz.prog 103 #[.pointer (some p)] .returning w fun e u' w' => e = .returned (.tuple #[]) ∧ u' = .returning ∧ w' = w := by
  refine callsD_of_wpS Tryz.func103 rfl fun c₀ cs hu => ?_
  apply wpS_seq
  apply wpS_region
  simp [wpOpsS, go_sem, recoverD, hu, Tryz.ntmps103, Exit.thenS]
  refine wpS_of_wp ?_
  go_wp2
  cases c₀
  simp_all [bodyPostS, results, Tryz.results103]
set_option maxRecDepth 100000 in
set_option maxHeartbeats 1600000 in
theorem caught_sts (g : Nat) (a b c : Int) (older : List PanicEntry) (w : World) (hG : Lx.Glob w) (hg : w.heap[g]? = some (.cells #[.int .i64 0, .int .i64 0, .int .i64 0] 29 (0, 0))) :
    CallsD Tryz.prog 103 #[.pointer (some ⟨g, 0, none⟩)] (.panicking ({ v := .iface 166 (.agg #[.int .i64 a, .int .i64 b, .int .i64 c]), recovered := false } :: older)) w fun e u' w' =>
      e = .returned (.tuple #[]) ∧ u' = .panicking ({ v := .iface 166 (.agg #[.int .i64 a, .int .i64 b, .int .i64 c]), recovered := true } :: older) ∧ (w'.heap[g]? = some (.cells (faultC a b c) 29 (0, 0)) ∧ But g w w') := by
  have HF := Lib.hid (faultOf_p a b c w hG)
  have HG := Lib.hid hg
  have h1 := not_nilW
  have h2 := is_error
  refine callsD_of_wpS Tryz.func103 rfl fun c₀ cs hu => ?_
  apply wpS_seq
  apply wpS_region
  simp [wpOpsS, go_sem, recoverD, hu, Tryz.ntmps103, Exit.thenS]
  refine wpS_of_wp ?_
  clear hG hg
  go_wp2_with fail
  refine HF.out.mono ?_
  rintro z w1 ⟨rfl, hB⟩
  have hk := (hB.block _ (Array.getElem?_eq_some_iff.1 HG.out).1).trans HG.out
  obtain ⟨x, y, v, hf⟩ := faultC_form a b c
  rw [hf]
  have HR := Lib.hid (And.intro (set3 hk (.int .i64 x) (.int .i64 y) (.int .i64 v)) (But.of_below (g := g) hB))
  have d0 := cell_blk hk (j := 0) rfl
  have d1 := cell_blk hk (j := 1) rfl
  have d2 := cell_blk hk (j := 2) rfl
  have hz : ∀ j, w1.frozen? ⟨g, j, none⟩ = false := fun j => by simp [World.frozen?, hk]
  have f0 := hz 0
  have f1 := hz 1
  have f2 := hz 2
  have HO := Lib.hid (fun (j : Nat) (v : Value) (W : World) => show But g W (W.setCell ⟨g, j, none⟩ v) from ⟨rfl, rfl, rfl, by simp [World.setCell], fun k _ hk => Below.heap_setCell _ _ _ _ hk⟩)
  have HFc := Lib.hid hf
  clear hz hk hB hf
  go_wp2_with fail
  cases c₀
  simp_all [bodyPostS, results, Tryz.results103]
  rw [HFc.out]
  exact ⟨HR.out.1, ((HR.out.2.trans (HO.out 0 _ _)).trans (HO.out 1 _ _)).trans (HO.out 2 _ _)⟩
end Go.Proofs.YtchbnkepmeelkaaGreatDoor
