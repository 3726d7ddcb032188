/- The lines of a program with a function f alone. -/
import Derived.Test.YtkjhofnkgcjcoaaDoorP14
import Derived.Test.YtkjhofnkgcjcoaaDoorShelf
namespace Go.Proofs.YtkjhofnkgcjcoaaDoor
open Go.RowKit
attribute [local go_sem] Oper.semAt_some

/-- the program lies at bp, its function at b -/
def PrAt (W : World) (bp b : Nat) : Prop := FnAt W b ∧ W.heap[bp]? = some (.cells #[.slice none 0 0, .slice (some ⟨b, 0, none⟩) 1 1] 43 (0, 0))
theorem PrAt.cells {W : World} {bp b : Nat} (h : PrAt W bp b) : W.cell? ⟨bp, 0, none⟩ = some (.slice none 0 0) ∧ W.cell? ⟨bp, 1, none⟩ = some (.slice (some ⟨b, 0, none⟩) 1 1) := by
  have h := h.2
  refine ⟨?_, ?_⟩ <;> simp [World.cell?, h]

set_option maxRecDepth 100000 in
set_option maxHeartbeats 3200000 in
theorem programLines1_own (bp b n : Nat) (w0 : World) :
    SeqOwn (fun W => PrAt W bp b) Fence.wide n Tryd.prog 39 #[.pointer (some ⟨bp, 0, none⟩)] encL lf w0 := by
  intro l J Jx W hW hJ hJx hG hY h0
  refine callsIn_wide.2 ?_
  have HS := Lib.hid (fun w hN h => showFunc_f b l J Jx W.heap.size (n - 1) w hN hJ hJx (fun k A h => (hG k A h).1) hY h)
  have HG := Lib.hid (fun k A h => (hG k A h).cells)
  have HJ0 := Lib.hid h0
  clear hJ hJx hG hY h0 hW
  show Calls Tryd.prog 39 #[.func (.yield l) #[] #[], .pointer (some ⟨bp, 0, none⟩)] W _
  obtain ⟨c0, c1⟩ := HG.out 0 W HJ0.out
  go_enter Tryd.func39, Tryd.ntmps39
  go_wp2_with fail
  go_loopw [9] (fun i wr => i = .int .i64 0 ∧ wr = W) (fun _ _ => 0)
  case atStart => exact ⟨rfl, rfl⟩
  case round =>
    obtain ⟨rfl, rfl⟩ := hrel
    go_wp2_with fail
    go_loopw [22] (fun i w2 => (i = .int .i64 0 ∧ w2 = wr) ∨ (i = .int .i64 1 ∧ Hid (J 2 w2))) (fun i _ => 1 - (intOf i).toNat)
    case atStart => exact .inl ⟨rfl, rfl⟩
    case round =>
      rcases hrel with ⟨rfl, rfl⟩ | ⟨rfl, hj⟩
      · go_wp2_with fail
        refine (HS.out _ (Nat.le_refl _) HJ0.out).mono ?_
        rintro e w3 (⟨rfl, h⟩ | ⟨rfl, h⟩)
        · have HH := Lib.hid h
          clear h
          go_wp2_with fail
          go_roundw
          case rel => exact .inr ⟨rfl, HH⟩
          case measure => simp [intOf]
        · have HH := Lib.hid h
          clear h
          go_wp2_with fail
          refine bodyPost_ret (results_none rfl _ _ _) rfl ?_
          obtain ⟨k, hk, h⟩ := HH.out
          exact ⟨⟨_, rfl⟩, .inr ⟨k, hk, h⟩⟩
      · go_wp2_with fail
        go_end0
        exact ⟨⟨_, rfl⟩, .inl hj.out⟩
theorem programLines_any (x y : Value) (w : World) : Calls Tryd.prog 19 #[.agg #[x, y]] w fun e w' => ∃ bp, e = .returned (.func (.func 39) #[] #[.pointer (some ⟨bp, 0, none⟩)]) ∧ w'.heap[bp]? = some (.cells #[x, y] 43 (0, 0)) ∧ w.heap.size ≤ bp ∧ Below w.heap.size w w' := by
  go_enter Tryd.func19, Tryd.ntmps19
  go_wp2_with fail
  go_ret
  exact ⟨_, rfl, heap_alloc_new w _, Nat.le_refl _, (Below.refl _ w).alloc (Nat.le_refl _) _⟩
end Go.Proofs.YtkjhofnkgcjcoaaDoor
/- A Builder: what its methods do, at this program's numbers (after the shelf's pattern). -/
namespace Go.Proofs.YtkjhofnkgcjcoaaDoor
open Go.RowKit

/-- what is no buffer stays -/
structure Keep (A B : World) : Prop where
  size : A.heap.size ≤ B.heap.size
  same : ∀ (k : Nat) (o : Obj), A.heap[k]? = some o → ¬ isBuf o → B.heap[k]? = some o
theorem Keep.refl (A : World) : Keep A A := ⟨Nat.le_refl _, fun _ _ h _ => h⟩
theorem Keep.trans {A B C : World} (h : Keep A B) (k : Keep B C) : Keep A C := ⟨Nat.le_trans h.size k.size, fun b o hb hn => k.same b o (h.same b o hb hn) hn⟩
theorem Keep.up {A B : World} (h : Keep A B) (n : Nat) : Up n A B := ⟨h.size, fun b o hb _ ho => h.same b o hb ho⟩
theorem Keep.alloc {A B : World} (h : Keep A B) (o : Obj) : Keep A (B.alloc o) := ⟨Nat.le_trans h.size (by simp), fun b o' hb ho => (Below.heap_alloc _ _ _ (lt_of_block (h.same b o' hb ho))).trans (h.same b o' hb ho)⟩
theorem Keep.setCell {A B : World} (h : Keep A B) {p : Addr} {o : Obj} (hp : B.heap[p.block]? = some o) (hb : isBuf o) (v : Value) : Keep A (B.setCell p v) :=
  ⟨Nat.le_trans h.size (by simp [World.setCell]), fun b o' h1 ho => by
    have h2 := h.same b o' h1 ho
    rw [Below.heap_setCell _ _ _ _ (fun e => by subst e; rw [hp] at h2; cases h2; exact ho hb)]; exact h2⟩
theorem buf_b (c : Array Value) (fr : Nat × Nat) : isBuf (.cells c 66 fr) := .inr rfl
theorem buf_u (c : Array Value) (fr : Nat × Nat) : isBuf (.cells c 5 fr) := .inl rfl
theorem own_buf {w : World} {B : Nat} {v : Value} {n : Nat} {xs : List Value} (h : w.ownsRow B 5 1 v n xs) {k : Nat} (hk : some k = v.ownBlock) : ∃ cur, w.heap[k]? = some (.cells cur 5 (0, 0)) := by
  rcases h.2 with ⟨hv, _⟩ | ⟨g, cap, cur, hv, _, hg, _⟩
  · subst hv; simp [Value.ownBlock] at hk
  · subst hv; simp [Value.ownBlock] at hk; subst hk; exact ⟨_, hg⟩
theorem Keep.grown {A B C : World} (h : Keep A B) {v : Value} {n : Nat} {xs : List Value} {b0 : Nat} (hown : B.ownsRow b0 5 1 v n xs) (hg : B.grownBy C v.ownBlock) : Keep A C :=
  ⟨Nat.le_trans h.size hg.size, fun k o hk ho => by
    have h2 := h.same k o hk ho
    refine (hg.block k (lt_of_block h2) (fun e => ?_)).trans h2
    obtain ⟨cur, hc⟩ := own_buf hown e
    rw [hc] at h2; cases h2; exact ho (buf_u _ _)⟩
theorem builder_block {T e : Nat} {B b : Nat} {bs : List Value} {p : Value} {w : World} (h : Lib.BuilderAt T e B b p bs w) : ∃ v, w.heap[b]? = some (.cells #[p, v] T (0, 0)) := by
  obtain ⟨_, v, hb, _⟩ := h
  exact ⟨v, hb⟩
/-- a Builder stays where buffers stay -/
theorem builder_at_rn {B b n : Nat} {bs : List Value} {p : Value} {w w' : World} (h : Lib.BuilderAt 66 5 B b p bs w) (k : Rn n w w') : Lib.BuilderAt 66 5 B b p bs w' := by
  obtain ⟨hB, v, hb, ⟨hl, ho⟩, hne⟩ := h
  refine ⟨hB, v, k.buf _ _ hb (buf_b _ _), ⟨hl, ?_⟩, hne⟩
  rcases ho with h0 | ⟨g, cap, cur, hv, hg, hc, rest⟩
  · exact .inl h0
  · exact .inr ⟨g, cap, cur, hv, hg, k.buf _ _ hc (buf_u _ _), rest⟩
theorem builder_rn {B b n : Nat} {bs : List Value} {w w' : World} (h : Lib.IsBuilder 66 5 B b bs w) (k : Rn n w w') : Lib.IsBuilder 66 5 B b bs w' :=
  h.elim (fun h => .inl (builder_at_rn h k)) (fun h => .inr (builder_at_rn h k))
theorem size_builder : (Tryd.prog.info? 66).map (·.size) = some 2 := by kernel_rfl
theorem size_ptr : ∃ j, Tryd.prog.info? 66 = some j ∧ j.size = 2 := Option.map_eq_some_iff.1 size_builder

set_option maxHeartbeats 1000000 in
set_option maxRecDepth 100000 in
theorem copyCheck_used (b : Nat) (w : World) (h0 : w.cell? ⟨b, 0, none⟩ = some (.pointer (some ⟨b, 0, none⟩))) :
    Calls Tryd.prog 42 #[.pointer (some ⟨b, 0, none⟩)] w fun e w' => e = .returned (.tuple #[]) ∧ w' = w := by
  obtain ⟨j, hj, _⟩ := size_ptr
  go_enter Tryd.func42, Tryd.ntmps42
  go_wp2_with fail
  rw [Lib.run_neq_ptr_same w _ Tryd.underlying63 hj]
  go_wp2_with fail
  go_end0
  exact ⟨rfl, rfl⟩

set_option maxHeartbeats 1000000 in
set_option maxRecDepth 100000 in
theorem copyCheck_fresh (b : Nat) (w : World) (h0 : w.cell? ⟨b, 0, none⟩ = some (.pointer none)) (hsh : w.shape? b = some (66, 2)) (hfz : w.frozen? ⟨b, 0, none⟩ = false) :
    Calls Tryd.prog 42 #[.pointer (some ⟨b, 0, none⟩)] w fun e w' => e = .returned (.tuple #[]) ∧ w' = w.setCell ⟨b, 0, none⟩ (.pointer (some ⟨b, 0, none⟩)) := by
  obtain ⟨j, hj, hjs⟩ := size_ptr
  go_enter Tryd.func42, Tryd.ntmps42
  go_wp2_with fail
  rw [Lib.run_to_unsafe w ⟨b, 0, none⟩ Tryd.underlying63 Tryd.underlying123 hj (by rw [hjs]; decide) hsh (Nat.zero_lt_succ 1)]
  simp only [Result.andThen]
  rw [Oper.upon_value]
  go_wp2_with fail
  rw [run_callFunc_extern Tryd.func66 (by kernel_rfl) (by kernel_rfl) (by kernel_rfl) (e := Extern.AbiNoEscape.same) (by kernel_rfl)]
  rw [Lib.run_noEscape]
  simp only [Result.andThen]
  rw [Oper.upon_value]
  go_wp2_with fail
  rw [Lib.run_from_unsafe w ⟨b, 0, none⟩ Tryd.underlying123 Tryd.underlying63 hj hsh Tryd.Builder_Extra_169.toX72.liesBuilder]
  simp only [Result.andThen]
  rw [Oper.upon_value]
  go_wp2_with fail
  go_end0
  exact ⟨rfl, rfl⟩

/-- copyCheck: behind it the Builder holds its own address -/
theorem copyCheck_any (B b : Nat) (bs : List Value) (w : World) (h : Lib.IsBuilder 66 5 B b bs w) :
    Calls Tryd.prog 42 #[.pointer (some ⟨b, 0, none⟩)] w fun e w' => e = .returned (.tuple #[]) ∧ (Lib.BuilderAt 66 5 B b (.pointer (some ⟨b, 0, none⟩)) bs w' ∧ Below B w w' ∧ Keep w w') := by
  rcases h with h | h
  · refine (copyCheck_fresh b w h.cell0 h.shape h.frozen0).mono ?_
    rintro e w' ⟨rfl, rfl⟩
    obtain ⟨v, hv⟩ := builder_block h
    exact ⟨rfl, h.used _, (Below.refl B w).setCell (p := ⟨b, 0, none⟩) h.1 _, (Keep.refl w).setCell (p := ⟨b, 0, none⟩) hv (buf_b _ _) _⟩
  · refine (copyCheck_used b w h.cell0).mono ?_
    rintro e w' ⟨rfl, rfl⟩
    exact ⟨rfl, h, Below.refl B _, Keep.refl _⟩

theorem info_byte' : (Tryd.prog.info? 5).map (fun i => (i.zero, i.size, i.bytes)) = some (some (.int .u8 0), 1, 1) := by kernel_rfl

set_option maxHeartbeats 2000000 in
set_option maxRecDepth 100000 in
theorem writeByte_any (B b : Nat) (bs : List Value) (c : Int) (w : World) (h : Lib.IsBuilder 66 5 B b bs w) (hlen : bs.length + 1 ≤ 140737488355328) (hBw : B ≤ w.heap.size) :
    Calls Tryd.prog 22 #[.pointer (some ⟨b, 0, none⟩), .int .u8 c] w fun e w' => e = .returned .nilIface ∧ (Lib.BuilderAt 66 5 B b (.pointer (some ⟨b, 0, none⟩)) (bs ++ [.int .u8 c]) w' ∧ Below B w w' ∧ Keep w w') := by
  obtain ⟨i0, hi, hz0, hz1, hz2⟩ := info_parts info_byte'
  go_enter Tryd.func22, Tryd.ntmps22
  go_wp2_with fail
  refine (copyCheck_any B b bs _ h).mono ?_
  rintro e w1 ⟨rfl, h1, hb1, hk1⟩
  obtain ⟨hB, v, hbk, hown, hne⟩ := h1
  have c0 : w1.cell? ⟨b, 0, none⟩ = some (.pointer (some ⟨b, 0, none⟩)) := by rw [Lib.cell_of_heap hbk]; rfl
  have c1 : w1.cell? ⟨b, 1, none⟩ = some v := by rw [Lib.cell_of_heap hbk]; rfl
  go_wp2_with (at_builtin; refine wpList_append_own _ rfl _ _ 64 rfl B 5 i0 (.int .u8 0) 1 1 Tryd.underlying64 hi hz0 hz1 hz2 rfl (by decide) _ _ _ rfl (hown.alloc _) ⟨w1.heap.size, 0, none⟩ 1 1 [.int .u8 c] rfl rfl ?c1 ?c2 ?c3 ?c4 ?c5 ?_)
  case c1 =>
    intro j u hj
    match j, hj with
    | 0, hj => simp at hj; subst hj; simp [Addr.add]
  case c2 => intro u hu; simp at hu; subst hu; rfl
  case c3 => unfold maxLen; omega
  case c4 => omega
  case c5 => have := hb1.size; simp; omega
  intro v' w2 hown' hgrow _
  have hlt : b < w1.heap.size := lt_of_block hbk
  have hb2 : w2.heap[b]? = some (.cells #[.pointer (some ⟨b, 0, none⟩), v] 66 (0, 0)) := by
    rw [hgrow.block b (by simp; omega) (fun e => hne e.symm), Lib.alloc_old w1 _ b hlt]
    exact hbk
  have d0 : w2.cell? ⟨b, 0, none⟩ = some (.pointer (some ⟨b, 0, none⟩)) := by rw [Lib.cell_of_heap hb2]; rfl
  have d1 : w2.cell? ⟨b, 1, none⟩ = some v := by rw [Lib.cell_of_heap hb2]; rfl
  have f1 : w2.frozen? ⟨b, 1, none⟩ = false := Lib.frozen_of_heap hb2 1
  obtain ⟨g, cap, rfl⟩ : ∃ g cap, v' = .slice (some ⟨g, 0, none⟩) (bs.length + 1) cap := by
    rcases hown'.2 with ⟨_, h0⟩ | ⟨g, cap, cur, hv, _⟩
    · omega
    · exact ⟨g, cap, hv⟩
  go_wp2_with fail
  go_ret
  refine ⟨rfl, ?_, ?_, ?_⟩
  · exact Lib.BuilderAt.put (T := 66) (e := 5) hB hb2 (bs' := bs ++ [.int .u8 c]) (by simpa using hown') (by decide)
  · exact ((hb1.alloc (by have := hb1.size; omega) _).grown hgrow (by have := hb1.size; simp; omega) (fun k hk => (hown.lt k hk).1)).setCell (p := ⟨b, 1, none⟩) hB _
  · exact ((hk1.alloc _).grown (hown.alloc _) hgrow).setCell (p := ⟨b, 1, none⟩) hb2 (buf_b _ _) _

set_option maxHeartbeats 2000000 in
set_option maxRecDepth 100000 in
theorem writeString_any (B b : Nat) (bs : List Value) (s : ByteArray) (w : World) (h : Lib.IsBuilder 66 5 B b bs w) (hlen : bs.length + s.size ≤ 140737488355328) (hBw : B ≤ w.heap.size) :
    Calls Tryd.prog 20 #[.pointer (some ⟨b, 0, none⟩), .string s] w fun e w' => e = .returned (.tuple #[.int .i64 s.size, .nilIface]) ∧ (Lib.BuilderAt 66 5 B b (.pointer (some ⟨b, 0, none⟩)) (bs ++ Lib.strCells s) w' ∧ Below B w w' ∧ Keep w w') := by
  obtain ⟨i0, hi, hz0, hz1, hz2⟩ := info_parts info_byte'
  go_enter Tryd.func20, Tryd.ntmps20
  go_wp2_with fail
  refine (copyCheck_any B b bs _ h).mono ?_
  rintro e w1 ⟨rfl, h1, hb1, hk1⟩
  obtain ⟨hB, v, hbk, hown, hne⟩ := h1
  have c0 : w1.cell? ⟨b, 0, none⟩ = some (.pointer (some ⟨b, 0, none⟩)) := by rw [Lib.cell_of_heap hbk]; rfl
  have c1 : w1.cell? ⟨b, 1, none⟩ = some v := by rw [Lib.cell_of_heap hbk]; rfl
  go_wp2_with (at_builtin; refine Lib.wpList_append_own_string _ rfl _ _ 64 9 rfl B 5 i0 Tryd.underlying64 Tryd.underlying9 hi hz0 hz1 hz2 _ _ _ rfl hown s rfl ?c3 ?c4 ?c5 ?_)
  case c3 => unfold maxLen; omega
  case c4 => omega
  case c5 => have := hb1.size; omega
  intro v' w2 hown' hgrow _
  have hlt : b < w1.heap.size := lt_of_block hbk
  have hb2 : w2.heap[b]? = some (.cells #[.pointer (some ⟨b, 0, none⟩), v] 66 (0, 0)) := by
    rw [hgrow.block b hlt (fun e => hne e.symm)]
    exact hbk
  have d0 : w2.cell? ⟨b, 0, none⟩ = some (.pointer (some ⟨b, 0, none⟩)) := by rw [Lib.cell_of_heap hb2]; rfl
  have d1 : w2.cell? ⟨b, 1, none⟩ = some v := by rw [Lib.cell_of_heap hb2]; rfl
  have f1 : w2.frozen? ⟨b, 1, none⟩ = false := Lib.frozen_of_heap hb2 1
  obtain ⟨ao, n', cap, rfl⟩ : ∃ ao n' cap, v' = .slice ao n' cap := by
    rcases hown'.2 with ⟨hv, _⟩ | ⟨g, cap, cur, hv, _⟩
    · exact ⟨_, _, _, hv⟩
    · exact ⟨_, _, _, hv⟩
  go_wp2_with fail
  go_ret2
  refine ⟨rfl, ?_, ?_, ?_⟩
  · exact Lib.BuilderAt.put (T := 66) (e := 5) hB hb2 (bs' := bs ++ Lib.strCells s) (by simpa [Lib.strCells_length] using hown') (by decide)
  · exact (hb1.grown hgrow (by have := hb1.size; omega) (fun k hk => (hown.lt k hk).1)).setCell (p := ⟨b, 1, none⟩) hB _
  · exact (hk1.grown hown hgrow).setCell (p := ⟨b, 1, none⟩) hb2 (buf_b _ _) _

theorem keep_freeze {A : World} {g : Nat} {cur : Array Value} (hg : A.heap[g]? = some (.cells cur 5 (0, 0))) (n : Nat) : Keep A (A.drew.freeze ⟨g, 0, none⟩ n) := by
  unfold World.freeze
  split
  · exact ⟨Nat.le_refl _, fun _ _ h _ => h⟩
  · refine ⟨?_, fun k o hk ho => ?_⟩
    · show A.heap.size ≤ (A.heap.modify g _).size
      simp
    · have hne : g ≠ k := fun e => by subst e; rw [hg] at hk; cases hk; exact ho (buf_u _ _)
      show (A.heap.modify g _)[k]? = some o
      rw [Array.getElem?_modify, if_neg hne]; exact hk

set_option maxHeartbeats 2000000 in
set_option maxRecDepth 100000 in
theorem string_any (B b : Nat) (l : List UInt8) (w : World) (h : Lib.IsBuilder 66 5 B b (Lib.byteCells l) w) (h0 : l ≠ []) :
    Calls Tryd.prog 24 #[.pointer (some ⟨b, 0, none⟩)] w fun e w' => e = .returned (.string ⟨l.toArray⟩) ∧ Below B w w' ∧ Keep w w' := by
  obtain ⟨p, hB, v, hbk, hown, hne⟩ : ∃ p, Lib.BuilderAt 66 5 B b p (Lib.byteCells l) w := by
    rcases h with h | h
    · exact ⟨_, h⟩
    · exact ⟨_, h⟩
  have hl0 : l.length ≠ 0 := by simpa using h0
  rw [Lib.byteCells_length] at hown
  obtain ⟨g, cap, cur, rfl, hbg, hg, hnc, hcm, hcs, htake⟩ : ∃ g cap cur, v = .slice (some ⟨g, 0, none⟩) l.length cap ∧ B ≤ g ∧ w.heap[g]? = some (.cells cur 5 (0, 0)) ∧ l.length ≤ cap ∧ cap ≤ maxLen ∧ cur.size = cap * 1 ∧ cur.toList.take (l.length * 1) = Lib.byteCells l := by
    rcases hown.2 with ⟨_, hz⟩ | ⟨g, cap, cur, hv, r⟩
    · exact absurd hz hl0
    · exact ⟨g, cap, cur, hv, r⟩
  have c1 : w.drew.cell? ⟨b, 1, none⟩ = some (.slice (some ⟨g, 0, none⟩) l.length cap) := by
    have : w.drew.heap[b]? = some (.cells #[p, .slice (some ⟨g, 0, none⟩) l.length cap] 66 (0, 0)) := hbk
    rw [Lib.cell_of_heap this]; rfl
  have hSD : (Builtin.unsafeSliceData_ #[64] 103 #[.slice (some ⟨g, 0, none⟩) l.length cap]).run Tryd.prog w.drew = .ok (.pointer (some ⟨g, 0, none⟩)) w.drew :=
    Lib.run_unsafeSliceData_row _ _ _ _ _ _ (by omega)
  have hUS : (Builtin.unsafeString_ #[103, 3] 9 #[.pointer (some ⟨g, 0, none⟩), .int .i64 l.length]).run Tryd.prog w.drew = .ok (.string ⟨l.toArray⟩) (w.drew.freeze ⟨g, 0, none⟩ l.length) := by
    refine Lib.run_unsafeString_row w.drew 103 3 9 5 Tryd.underlying103 Tryd.Builder_Extra_169.cellsByte g cur.size (by have hg' : w.drew.heap[g]? = some (.cells cur 5 (0, 0)) := hg; simp [World.shape?, hg']) l h0 (by omega) (by unfold maxLen at hcm; omega) ?_
    intro j x hx
    have := hown.cells (g := g) rfl j (.int .u8 x.toNat) (by simp [Lib.byteCells, hx])
    exact this
  have HK := Lib.hid (keep_freeze hg l.length)
  go_enter Tryd.func24, Tryd.ntmps24
  go_wp2_with fail
  go_region
  all_goals (go_wp2_with fail; go_ret; exact ⟨rfl, Lib.below_freeze (Below.drew (Below.refl B w)) (p := ⟨g, 0, none⟩) hbg _, HK.out⟩)

set_option maxRecDepth 100000 in
set_option maxHeartbeats 2000000 in
/-- no tabs -/
theorem repeat0 (s : ByteArray) (w : World) : Calls Tryd.prog 21 #[.string s, .int .i64 0] w fun e w' => e = .returned (.string ⟨#[]⟩) ∧ w = w' := by
  go_enter Tryd.func21, Tryd.ntmps21
  go_wp2_with fail
  go_ret
  exact ⟨rfl, rfl⟩
end Go.Proofs.YtkjhofnkgcjcoaaDoor
