/- The lines of any statements: the program's Lines; how much they have. -/
import Derived.Test.YtkjhofnkgcjcoaaDoorP22
import Derived.Test.YtkjhofnkgcjcoaaDoorP29
import Derived.Test.YtkjhofnkgcjcoaaDoorP33
import Derived.Test.YtkjhofnkgcjcoaaDoorP17
namespace Go.Proofs.YtkjhofnkgcjcoaaDoor
open Go.RowKit
attribute [local go_sem] Oper.semAt_some

theorem cnt_long {M t v : Nat} (h : Cnt M t v 0) : (M < v ↔ M < t) := by unfold Cnt at h; omega
/-- an iterator that hands on nothing -/
theorem lines0_own (n : Nat) (G : World → Prop) (wx : World) : SeqOwn G Fence.wide n Tryd.prog 47 #[] encL [] wx := by
  intro l J Jx W hW hJ _ _ _ h0
  refine callsIn_wide.2 ?_
  show Calls Tryd.prog 47 #[.func (.yield l) #[] #[]] W _
  go_enter Tryd.func47, Tryd.ntmps47
  go_wp2_with fail
  go_end0
  exact ⟨⟨_, rfl⟩, .inl h0⟩
theorem lines_no (l : Sts) (h6 : l.wt ≤ 1000000) (p : Option Addr) (c N : Nat) (w : World) (h : l.In w N p) (hN : N ≤ w.heap.size) (hm : l.can = false) :
    Calls Tryd.prog 25 #[.slice p l.len c] w fun e w' => e = .returned (.func (.func 47) #[] #[]) ∧ Below w.heap.size w w' := by
  have HC := Lib.hid (mayBody_any l h6 p c N w hN h)
  rw [hm] at HC
  clear h hm
  go_enter Tryd.func25, Tryd.ntmps25
  go_wp2_with fail
  refine HC.out.mono ?_
  rintro e w' ⟨rfl, hB⟩
  have HB := Lib.hid hB
  clear hB
  go_wp2_with fail
  go_ret
  exact ⟨rfl, HB.out⟩
theorem lines_yes (l : Sts) (h6 : l.wt ≤ 1000000) (ht : l.total ≤ 100000) (p : Option Addr) (c N : Nat) (w : World) (h : l.In w N p) (hN : N ≤ w.heap.size) (hm : l.can = true) :
    Calls Tryd.prog 25 #[.slice p l.len c] w fun e w' => (∃ bx q d, e = .returned (.func (.func 73) #[] #[.pointer (some ⟨bx, 0, none⟩)]) ∧ w'.heap[bx]? = some (.cells #[.slice q l.len d] 33 (0, 0)) ∧ l.In w' w'.heap.size q) ∧ Below w.heap.size w w' := by
  have HC := Lib.hid (mayBody_any l h6 p c N w hN h)
  rw [hm] at HC
  have HP := Lib.hid (fun (w1 : World) (hB : Below w.heap.size w w1) => cpS_all _ l (Nat.lt_succ_self _) ht p c N w1 (Nat.le_trans hN hB.size) (h.later (hB.mono hN) (Nat.le_refl _)))
  clear h hm
  go_enter Tryd.func25, Tryd.ntmps25
  go_wp2_with fail
  refine HC.out.mono ?_
  rintro e w1 ⟨rfl, hB⟩
  have HB := Lib.hid hB
  clear hB
  go_wp2_with fail
  refine (HP.out _ HB.out).mono ?_
  rintro e w2 ⟨⟨q, d, rfl, hf⟩, hB2⟩
  have HF := Lib.hid hf
  have HB2 := Lib.hid (HB.out.trans (hB2.mono HB.out.size))
  clear hf hB2
  go_wp2_with fail
  refine (stmtLines_any _ _ _ _).mono ?_
  rintro e w3 ⟨bx, rfl, hx, _, hB3⟩
  have HX := Lib.hid hx
  have HB3 := Lib.hid hB3
  clear hx hB3
  go_wp2_with fail
  go_ret
  exact ⟨⟨bx, q, d, rfl, HX.out, (HF.out w3 (Agr.of_below HB3.out (Nat.le_refl _))).up HB3.out.size⟩, HB2.out.trans (HB3.out.mono HB2.out.size)⟩
end Go.Proofs.YtkjhofnkgcjcoaaDoor
/- An expression so deep: the law's deep. -/
namespace Go.Proofs.YtkjhofnkgcjcoaaDoor
open Go.RowKit

theorem one_new (w : World) (o : Obj) : ∃ W, w.alloc o = W ∧ W.heap[w.heap.size]? = some o ∧ Below w.heap.size w W ∧ W.heap.size = w.heap.size + 1 :=
  ⟨_, rfl, heap_alloc_new w o, (Below.refl _ w).alloc (Nat.le_refl _) _, by simp⟩
theorem blk_cell {w : World} {b j : Nat} {cs : Array Value} {t : TypeId} {v : Value} {q : Nat × Nat} (h : w.heap[b]? = some (.cells cs t q)) (hv : cs[j]? = some v) : w.cell? ⟨b, j, none⟩ = some v := by simp [World.cell?, h, hv]
theorem blk_lt {w : World} {b : Nat} {x : Obj} (h : w.heap[b]? = some x) : b < w.heap.size := (Array.getElem?_eq_some_iff.1 h).1
theorem four_at {W : World} {R o : Nat} {x0 x1 x2 x3 y0 y1 y2 y3 : Value} (r0 : W.cell? ⟨R, o, none⟩ = some y0) (r1 : W.cell? ⟨R, o + 1, none⟩ = some y1) (r2 : W.cell? ⟨R, o + 2, none⟩ = some y2) (r3 : W.cell? ⟨R, o + 3, none⟩ = some y3) :
    ∃ W', W' = (((W.setCell ⟨R, o, none⟩ x0).setCell ⟨R, o + 1, none⟩ x1).setCell ⟨R, o + 2, none⟩ x2).setCell ⟨R, o + 3, none⟩ x3 ∧ (W'.cell? ⟨R, o, none⟩ = some x0 ∧ W'.cell? ⟨R, o + 1, none⟩ = some x1 ∧ W'.cell? ⟨R, o + 2, none⟩ = some x2 ∧ W'.cell? ⟨R, o + 3, none⟩ = some x3) ∧ (∀ kk, kk ≠ R → W'.heap[kk]? = W.heap[kk]?) ∧ W'.heap.size = W.heap.size ∧ (∀ B, B ≤ R → Below B W W') ∧ ∀ j, W'.frozen? ⟨R, j, none⟩ = W.frozen? ⟨R, j, none⟩ := by
  have ne : ∀ a b : Nat, a ≠ b → (⟨R, a, none⟩ : Addr) ≠ ⟨R, b, none⟩ := fun a b h e => h (by injection e)
  refine ⟨_, rfl, ⟨?_, ?_, ?_, ?_⟩, fun kk h => ?_, ?_, fun B hB => ?_, fun j => ?_⟩
  · rw [World.cell?_setCell_other _ _ _ _ (ne _ _ (by omega)), World.cell?_setCell_other _ _ _ _ (ne _ _ (by omega)), World.cell?_setCell_other _ _ _ _ (ne _ _ (by omega))]; exact World.cell?_setCell_same _ _ _ r0
  · rw [World.cell?_setCell_other _ _ _ _ (ne _ _ (by omega)), World.cell?_setCell_other _ _ _ _ (ne _ _ (by omega))]; exact World.cell?_setCell_same _ _ _ ((World.cell?_setCell_other _ _ _ _ (ne _ _ (by omega))).trans r1)
  · rw [World.cell?_setCell_other _ _ _ _ (ne _ _ (by omega))]; exact World.cell?_setCell_same _ _ _ ((World.cell?_setCell_other _ _ _ _ (ne _ _ (by omega))).trans ((World.cell?_setCell_other _ _ _ _ (ne _ _ (by omega))).trans r2))
  · exact World.cell?_setCell_same _ _ _ ((World.cell?_setCell_other _ _ _ _ (ne _ _ (by omega))).trans ((World.cell?_setCell_other _ _ _ _ (ne _ _ (by omega))).trans ((World.cell?_setCell_other _ _ _ _ (ne _ _ (by omega))).trans r3)))
  · rw [Below.heap_setCell _ _ _ _ h, Below.heap_setCell _ _ _ _ h, Below.heap_setCell _ _ _ _ h, Below.heap_setCell _ _ _ _ h]
  · simp [World.setCell]
  · exact ((((Below.refl B W).setCell (p := ⟨R, o, none⟩) hB _).setCell (p := ⟨R, o + 1, none⟩) hB _).setCell (p := ⟨R, o + 2, none⟩) hB _).setCell (p := ⟨R, o + 3, none⟩) hB _
  · exact (World.frozen?_setCells _ [_] _ _ ⟨R, j, none⟩).trans ((World.frozen?_setCells _ [_] _ _ ⟨R, j, none⟩).trans ((World.frozen?_setCells _ [_] _ _ ⟨R, j, none⟩).trans (World.frozen?_setCells _ [_] _ _ ⟨R, j, none⟩)))
/-- so many signs ~ ahead of x -/
def nst : Nat → Ex
  | 0 => xX
  | k + 1 => .mk 4 0 [] (.cons (nst k) .nil)
theorem nst_depth : ∀ k, (nst k).depth = k + 1
  | 0 => rfl
  | k + 1 => by rw [nst, Ex.depth, Exs.deepest, Exs.deepest, nst_depth k]; omega
theorem nst_may : ∀ k, (nst k).may = true
  | 0 => by decide
  | k + 1 => by rw [nst, Ex.may, Exs.may, Exs.may, nst_may k]; rfl
theorem nst_size : ∀ k, (nst k).size ≤ 3 * k + 3
  | 0 => by decide
  | k + 1 => by have := nst_size k; simp only [nst, Ex.size, Exs.size]; omega
theorem nst_text : ∀ k, (nst k).text.length = k + 1
  | 0 => by decide
  | k + 1 => by
    have h : (nst (k + 1)).text = 126 :: (nst k).text := rfl
    rw [h, List.length_cons, nst_text k]
theorem nst_word : ∀ k, (nst k).word = 0
  | 0 => rfl
  | _ + 1 => rfl
theorem nst_args : ∀ k, (nst (k + 1)).args = .cons (nst k) .nil := fun _ => rfl
/-- where its arguments lie: never in a block eb -/
def NIn (w : World) (lo eb : Nat) : Nat → Option Addr → Prop
  | 0, _ => True
  | k + 1, p => ∃ b p' c', p = some ⟨b, 0, none⟩ ∧ (b ≠ eb ∧ lo ≤ b) ∧ w.heap[b]? = some (.cells #[.int .i64 (nst k).op, .int .u64 ((nst k).word : Int), .string (str (nst k).name), .slice p' (nst k).args.len c'] 29 (0, 0)) ∧ NIn w lo eb k p'
theorem NIn.keep {w w' : World} {lo eb : Nat} (h : ∀ i, i < w.heap.size → i ≠ eb → lo ≤ i → w'.heap[i]? = w.heap[i]?) : ∀ (k : Nat) (p : Option Addr), NIn w lo eb k p → NIn w' lo eb k p
  | 0, _, _ => trivial
  | k + 1, _p, ⟨b, p', c', hp, hne, hb, hr⟩ => ⟨b, p', c', hp, hne, (h b (blk_lt hb) hne.1 hne.2).trans hb, NIn.keep h k p' hr⟩
theorem NIn.at {w : World} {lo eb : Nat} : ∀ (k : Nat) (p : Option Addr), NIn w lo eb k p → (nst k).args.In w w.heap.size p
  | 0, _, _ => ⟨Nat.zero_le _, .inl rfl⟩
  | k + 1, p, ⟨b, p', c', hp, hne, hb, hr⟩ => by
    refine ⟨by rw [nst_args]; simp [Exs.len], .inr ⟨b, 0, hp, blk_lt hb, ?_⟩⟩
    rw [nst_args]
    have h := NIn.at k p' hr
    have e0 := blk_cell (j := 0) hb rfl
    have e1 := blk_cell (j := 1) hb rfl
    have e2 := blk_cell (j := 2) hb rfl
    have e3 := blk_cell (j := 3) hb rfl
    have hw : (nst k).word < 18446744073709551616 := by rw [nst_word]; omega
    generalize nst k = x at *
    obtain ⟨op, wd, nm, ar⟩ := x
    exact ⟨⟨⟨e0, e1, e2, hw⟩, ⟨p', c', e3, h⟩⟩, trivial⟩
theorem NIn.ok {w : World} {lo eb : Nat} {k : Nat} {p : Option Addr} (h : NIn w lo eb k p) : (nst k).Ok w w.heap.size p := ⟨NIn.at k p h, by rw [nst_word]; omega⟩
/-- the expression so far, in its own block -/
structure DpAt (w wr : World) (eb k : Nat) (p : Option Addr) (c : Nat) : Prop where
  bel : Below w.heap.size w wr
  hb : w.heap.size ≤ eb ∧ eb < wr.heap.size
  c0 : wr.cell? ⟨eb, 0, none⟩ = some (.int .i64 (nst k).op)
  c1 : wr.cell? ⟨eb, 1, none⟩ = some (.int .u64 ((nst k).word : Int))
  c2 : wr.cell? ⟨eb, 2, none⟩ = some (.string (str (nst k).name))
  c3 : wr.cell? ⟨eb, 3, none⟩ = some (.slice p (nst k).args.len c)
  fz : ∀ j, wr.frozen? ⟨eb, j, none⟩ = false
  ok : NIn wr w.heap.size eb k p
/-- one more -/
theorem DpAt.step {w wr W1 w2 : World} {eb k : Nat} {p : Option Addr} {c : Nat} (h : DpAt w wr eb k p c) (hW1 : wr.alloc (.cells #[.int .i64 (nst k).op, .int .u64 ((nst k).word : Int), .string (str (nst k).name), .slice p (nst k).args.len c] 29) = W1) (hB : Below W1.heap.size W1 w2) :
    (∃ y0 y1 y2 y3, w2.cell? ⟨eb, 0, none⟩ = some y0 ∧ w2.cell? ⟨eb, 1, none⟩ = some y1 ∧ w2.cell? ⟨eb, 2, none⟩ = some y2 ∧ w2.cell? ⟨eb, 3, none⟩ = some y3) ∧ (∀ j, w2.frozen? ⟨eb, j, none⟩ = false) ∧
    ∃ W', W' = (((w2.setCell ⟨eb, 0, none⟩ (.int .i64 4)).setCell ⟨eb, 1, none⟩ (.int .u64 0)).setCell ⟨eb, 2, none⟩ (.string ⟨#[]⟩)).setCell ⟨eb, 3, none⟩ (.slice (some ⟨wr.heap.size, 0, none⟩) 1 1) ∧ DpAt w W' eb (k + 1) (some ⟨wr.heap.size, 0, none⟩) 1 := by
  obtain ⟨h1, h2, c0, c1, c2, c3, hf, hk⟩ := h
  have hA : Below wr.heap.size wr W1 := by rw [← hW1]; exact (Below.refl _ wr).alloc (Nat.le_refl _) _
  have hn : W1.heap[wr.heap.size]? = some (.cells #[.int .i64 (nst k).op, .int .u64 ((nst k).word : Int), .string (str (nst k).name), .slice p (nst k).args.len c] 29 (0, 0)) := by rw [← hW1]; exact heap_alloc_new wr _
  have hs1 : W1.heap.size = wr.heap.size + 1 := by rw [← hW1]; simp
  have hB2 := hA.trans (hB.mono hA.size)
  have e0 := (hB2.cell (p := ⟨eb, 0, none⟩) h2.2).trans c0
  have e1 := (hB2.cell (p := ⟨eb, 1, none⟩) h2.2).trans c1
  have e2 := (hB2.cell (p := ⟨eb, 2, none⟩) h2.2).trans c2
  have e3 := (hB2.cell (p := ⟨eb, 3, none⟩) h2.2).trans c3
  have f2 : ∀ j, w2.frozen? ⟨eb, j, none⟩ = false := fun j => (World.frozen?_of_block (hB2.block eb h2.2)).trans (hf j)
  obtain ⟨W', eW, ⟨d0, d1, d2, d3⟩, hbl, hsz, hBl, hfz⟩ := four_at (o := 0) (x0 := .int .i64 4) (x1 := .int .u64 0) (x2 := .string ⟨#[]⟩) (x3 := .slice (some ⟨wr.heap.size, 0, none⟩) 1 1) e0 e1 e2 e3
  refine ⟨⟨_, _, _, _, e0, e1, e2, e3⟩, f2, W', eW, (h1.trans (hB2.mono h1.size)).trans (hBl _ h2.1), ⟨h2.1, by have := hB2.size; omega⟩, d0, d1, d2, d3, fun j => (hfz j).trans (f2 j), wr.heap.size, p, c, rfl, ⟨by omega, h1.size⟩, (hbl _ (by omega)).trans ((hB.block _ (by omega)).trans hn), ?_⟩
  exact NIn.keep (fun i hi hne _ => (hbl i hne).trans (hB2.block i hi)) k p hk
set_option maxRecDepth 100000 in
set_option maxHeartbeats 3200000 in
theorem deep_any (n : Nat) (h1 : 1 ≤ n) (hn : n ≤ 1000) (w : World) : Calls Tryd.prog 5 #[.int .i64 (n : Int)] w fun e w' => ∃ p c, e = .returned ((nst (n - 1)).val p c) ∧ (nst (n - 1)).Ok w' w'.heap.size p ∧ Below w.heap.size w w' := by
  have HV := Lib.hid (fun (W : World) => v_any ⟨#[120]⟩ W)
  obtain ⟨W0, hW0, k0, hB0, hs0⟩ := one_new w (.cells #[.int .i64 0, .int .u64 0, .string ⟨#[]⟩, .slice none 0 0] 29 (0, 0))
  have HW0 := Lib.hid hW0
  have HK0 := Lib.hid (show Below w.heap.size w W0 ∧ w.heap.size < W0.heap.size ∧ W0.heap[w.heap.size]? = some (.cells #[.int .i64 0, .int .u64 0, .string ⟨#[]⟩, .slice none 0 0] 29 (0, 0)) from ⟨hB0, by omega, k0⟩)
  clear hW0 k0 hB0 hs0
  go_enter Tryd.func5, Tryd.ntmps5
  go_upto_region 1 with fail
  rw [HW0.out]
  go_wp2_with fail
  refine (HV.out _).mono ?_
  rintro e w1 ⟨rfl, hB1⟩
  obtain ⟨W2, hW2, k2, hB2, hs2⟩ := one_new w1 (.cells #[.int .i64 2, .int .u64 0, .string ⟨#[120]⟩, .slice none 0 0] 29 (0, 0))
  have HW2 := Lib.hid hW2
  have hX : Below W0.heap.size W0 W2 := hB1.trans (hB2.mono hB1.size)
  have HD := Lib.hid (show DpAt W0 W2 w1.heap.size 0 none 0 from ⟨hX, ⟨hB1.size, by omega⟩, blk_cell k2 rfl, blk_cell k2 rfl, blk_cell k2 rfl, blk_cell k2 rfl, fun j => by simp [World.frozen?, k2], trivial⟩)
  clear hW2 k2 hB2 hs2 hX hB1
  go_upto_region 2 with fail
  rw [HW2.out]
  generalize w1.heap.size = eb at *
  go_wp2_with fail
  go_loopw [4] (fun i wr => ∃ (k : Nat) (p : Option Addr) (c : Nat), i = .int .i64 ((k + 1 : Nat) : Int) ∧ k + 1 ≤ n ∧ Hid (DpAt W0 wr eb k p c)) (fun i _ => n - (intOf i).toNat)
  case atStart => exact ⟨0, none, 0, rfl, h1, HD⟩
  case round =>
    clear HD HW2
    obtain ⟨k, p, c, rfl, hk, HD⟩ := hrel
    have c0 := HD.out.c0
    have c1 := HD.out.c1
    have c2 := HD.out.c2
    have c3 := HD.out.c3
    by_cases hlt : k + 1 < n
    · obtain ⟨W1, hW1, _, _, _⟩ := one_new wr (.cells #[.int .i64 (nst k).op, .int .u64 ((nst k).word : Int), .string (str (nst k).name), .slice p (nst k).args.len c] 29)
      have hlt' : ((k + 1 : Nat) : Int) < (n : Int) := by omega
      go_wp2_with fail
      refine (op_any _ _ _ _ _).mono ?_
      rintro e w2 ⟨rfl, hB2⟩
      obtain ⟨⟨y0, y1, y2, y3, e0, e1, e2, e3⟩, hf, W', hW', hD'⟩ := HD.out.step hW1 hB2
      have f0 := hf 0
      have f1 := hf 1
      have f2 := hf 2
      have f3 := hf 3
      have HD' := Lib.hid hD'
      clear c0 c1 c2 c3 hf hB2 hD'
      go_wp2_with fail
      rw [← hW']
      go_roundw
      case rel => exact ⟨k + 1, _, 1, by go_num, by omega, HD'⟩
      case measure => simp [intOf]; omega
    · obtain rfl : n = k + 1 := by omega
      have hlt' : ¬ ((k + 1 : Nat) : Int) < ((k + 1 : Nat) : Int) := by omega
      have kr := (HD.out.bel.block _ HK0.out.2.1).trans HK0.out.2.2
      obtain ⟨W', eW, ⟨d0, d1, d2, d3⟩, hbl, hsz, hBl, hfz⟩ := four_at (R := w.heap.size) (o := 0) (x0 := .int .i64 (nst k).op) (x1 := .int .u64 ((nst k).word : Int)) (x2 := .string (str (nst k).name)) (x3 := .slice p (nst k).args.len c) (blk_cell (j := 0) kr rfl) (blk_cell (j := 1) kr rfl) (blk_cell (j := 2) kr rfl) (blk_cell (j := 3) kr rfl)
      have r0 : wr.cell? ⟨w.heap.size, 0, none⟩ = some (.int .i64 0) := blk_cell kr rfl
      have r1 : wr.cell? ⟨w.heap.size, 1, none⟩ = some (.int .u64 0) := blk_cell kr rfl
      have r2 : wr.cell? ⟨w.heap.size, 2, none⟩ = some (.string ⟨#[]⟩) := blk_cell kr rfl
      have r3 : wr.cell? ⟨w.heap.size, 3, none⟩ = some (.slice none 0 0) := blk_cell kr rfl
      have hfr : ∀ j, wr.frozen? ⟨w.heap.size, j, none⟩ = false := fun j => by simp [World.frozen?, kr]
      have f0 := hfr 0
      have f1 := hfr 1
      have f2 := hfr 2
      have f3 := hfr 3
      have HE := Lib.hid (show (nst k).Ok W' W'.heap.size p ∧ Below w.heap.size w W' from ⟨⟨NIn.at k p (NIn.keep (w := wr) (eb := eb) (fun i hi hne hlo => hbl i (by have := HK0.out.2.1; omega)) k p HD.out.ok), by rw [nst_word]; omega⟩, (HK0.out.1.trans (HD.out.bel.mono (Nat.le_of_lt HK0.out.2.1))).trans (hBl _ (Nat.le_refl _))⟩)
      clear hfr kr hbl hsz hBl hfz
      go_wp2_with fail
      rw [← eW]
      refine bodyPost_ret (v := .agg #[.int .i64 (nst k).op, .int .u64 ((nst k).word : Int), .string (str (nst k).name), .slice p (nst k).args.len c]) (by simp [results, Tryd.results5, go_sem, d0, d1, d2, d3]) rfl ?_
      exact ⟨p, ⟨c, rfl⟩, HE.out⟩
end Go.Proofs.YtkjhofnkgcjcoaaDoor
