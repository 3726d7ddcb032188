/- The text of any program. -/
import Derived.Test.YtkjhofnkgcjcoaaDoorP39
import Derived.Test.YtkjhofnkgcjcoaaDoorP16
import Derived.Test.YtkjhofnkgcjcoaaDoorP35
namespace Go.Proofs.YtkjhofnkgcjcoaaDoor
open Go.RowKit
attribute [local go_sem] Oper.semAt_some

def Prg.err (x : Prg) : Nat := if x.may then (if x.text.length ≤ 65536 then 0 else 3) else 2
def Prg.out (x : Prg) : List UInt8 := if x.err = 0 then x.text else []
theorem linesT_app (a b : List (Nat × List UInt8)) : linesT (a ++ b) = linesT a ++ linesT b := by simp [linesT]
theorem linesT_take {L : List (Nat × List UInt8)} {k : Nat} {x : Nat × List UInt8} (h : L[k]? = some x) : linesT (L.take (k + 1)) = linesT (L.take k) ++ (List.replicate x.1 9 ++ (x.2 ++ [10])) := by
  rw [List.take_add_one, h, Option.toList_some, linesT_app]
  simp [linesT, lineT]
theorem linesT_le (L : List (Nat × List UInt8)) (k : Nat) : (linesT (L.take k)).length ≤ (linesT L).length := by
  have := congrArg List.length (linesT_app (L.take k) (L.drop k))
  rw [List.take_append_drop, List.length_append] at this
  omega
theorem repeat_tab (t : Nat) (ht : t ≤ 1000) (w : World) : Calls Tryd.prog 21 #[.string ⟨#[9]⟩, .int .i64 (t : Int)] w fun e w' => e = .returned (.string (str (List.replicate t 9))) ∧ Below w.heap.size w w' := by
  have h := Tryd.strings_Repeat ⟨#[9]⟩ t w (by omega) (by show 1 * t ≤ _; omega)
  have e : Lib.repeatL (⟨#[9]⟩ : ByteArray).data.toList t = List.replicate t 9 := by
    have := Lib.repeatL_replicate 9 1 t
    rw [Nat.mul_one] at this
    exact this
  rw [e] at h
  exact h

/-- what stays while Text goes through the lines -/
structure TX (w : World) (bp nb : Nat) (PV : Array Value) (L : List (Nat × List UInt8)) (k : Nat) (W : World) : Prop where
  pr : W.heap[bp]? = some (.cells PV 43 (0, 0))
  bd : Lib.IsBuilder 66 5 nb nb (Lib.byteCells (linesT (L.take k))) W
  r0 : W.heap[w.heap.size + 1]? = some (.cells #[.string ⟨#[]⟩] 9 (0, 0))
  r1 : W.heap[w.heap.size + 2]? = some (.cells #[.int .i64 0] 22 (0, 0))
  bw : Below w.heap.size w W
  ln : (linesT (L.take k)).length ≤ 65536
  fr : k = 0 → W.heap[nb]? = some (.cells #[.pointer none, .slice none 0 0] 66 (0, 0))
theorem TX.rn {w : World} {bp nb n : Nat} {PV : Array Value} {L : List (Nat × List UInt8)} {k : Nat} {A B : World} (h : TX w bp nb PV L k A) (hAB : Rn n A B) (h1 : bp < n) (h2 : w.heap.size + 2 < n) : TX w bp nb PV L k B :=
  ⟨(hAB.bel.block _ h1).trans h.pr, builder_rn h.bd hAB, (hAB.bel.block _ (by omega)).trans h.r0, (hAB.bel.block _ h2).trans h.r1, h.bw.trans (hAB.bel.mono (by omega)), h.ln, fun e => hAB.buf _ _ (h.fr e) (buf_b _ _)⟩

theorem string_fresh (b : Nat) (w : World) (h : w.heap[b]? = some (.cells #[.pointer none, .slice none 0 0] 66 (0, 0))) :
    Calls Tryd.prog 24 #[.pointer (some ⟨b, 0, none⟩)] w fun e w' => e = .returned (.string ⟨#[]⟩) ∧ Below w.heap.size w w' :=
  Any.Builder_String_nil Tryd.lays169 Tryd.Builder_Extra_169 w.heap.size b _ w h
set_option maxRecDepth 100000 in
set_option maxHeartbeats 6400000 in
theorem text_no (x : Prg) (h6 : ∀ f ∈ x.fns, f.body.wt ≤ 1000000) (p q : Option Addr) (c d : Nat) (w : World) (hok : x.Ok w w.heap.size p q) (hm : x.may = false) :
    Calls Tryd.prog 8 #[x.val p q c d] w fun e w' => e = .returned (.tuple #[.string (str x.out), .int .i64 (x.err : Int)]) ∧ Below w.heap.size w w' := by
  have he : x.err = 2 := by unfold Prg.err; rw [hm]; rfl
  have ho : x.out = [] := by unfold Prg.out; rw [he]; rfl
  rw [he, ho]
  have HMy := Lib.hid (fun (w1 : World) (hB : Below w.heap.size w w1) => may_any x h6 p q c d w.heap.size w1 hB.size (hok.later hB (Nat.le_refl _)))
  rw [hm] at HMy
  unfold Prg.val at HMy ⊢
  clear hok hm he ho
  refine (callsIn_wide (n := 4)).1 ?_
  refine callsIn_of_wp_marks Tryd.func8 rfl trivial ?_ rfl
  simp only [Tryd.ntmps8, List.size_toArray, List.length_cons, List.length_nil, Nat.reduceAdd, Nat.reduceSub, Array.replicate_succ, Array.replicate_zero, List.push_toArray, List.append_toArray, List.nil_append, List.cons_append]
  gi_wp2_with fail
  obtain ⟨w1, hw1⟩ : ∃ w1, ((w.alloc (.cells #[.slice p x.regs.length c, .slice q x.fns.length d] 43)).alloc (.cells #[.string ⟨#[]⟩] 9)).alloc (.cells #[.int .i64 0] 22) = w1 := ⟨_, rfl⟩
  have hB1 : Below w.heap.size w w1 := by rw [← hw1]; exact (((Below.refl _ w).alloc (Nat.le_refl _) _).alloc (by simp) _).alloc (by simp; omega) _
  have k1 : w1.heap[w.heap.size + 1]? = some (.cells #[.string ⟨#[]⟩] 9 (0, 0)) := by
    rw [← hw1, Below.heap_alloc _ _ _ (by simp)]; have := heap_alloc_new (w.alloc (.cells #[.slice p x.regs.length c, .slice q x.fns.length d] 43)) (.cells #[.string ⟨#[]⟩] 9); simpa using this
  have k2 : w1.heap[w.heap.size + 2]? = some (.cells #[.int .i64 0] 22 (0, 0)) := by
    rw [← hw1]; have := heap_alloc_new ((w.alloc (.cells #[.slice p x.regs.length c, .slice q x.fns.length d] 43)).alloc (.cells #[.string ⟨#[]⟩] 9)) (.cells #[.int .i64 0] 22); simpa using this
  rw [hw1]
  clear hw1
  refine ⟨trivial, ?_⟩
  refine (callsIn_wide.2 (HMy.out w1 hB1)).mono ?_
  rintro e w2 ⟨rfl, hB2⟩
  have j1 := (hB2.block _ (lt_of_block k1)).trans k1
  have j2 := (hB2.block _ (lt_of_block k2)).trans k2
  have HB := Lib.hid (hB1.trans (hB2.mono hB1.size))
  have c1 := cell_of_one j1
  have c2 := cell_of_one j2
  have f1 := free_of_one j1
  have f2 := free_of_one j2
  have HJ := Lib.hid (And.intro j1 j2)
  clear k1 k2 hB1 hB2 j1 j2
  gi_wp2_with fail
  obtain ⟨X, hX⟩ : ∃ X, w2.setCell ⟨w.heap.size + 1, 0, none⟩ (.string ⟨#[]⟩) = X := ⟨_, rfl⟩
  have x1 : X.heap[w.heap.size + 1]? = some (.cells #[.string ⟨#[]⟩] 9 (0, 0)) := by rw [← hX]; exact one_setCell HJ.out.1
  have x2 : X.heap[w.heap.size + 2]? = some (.cells #[.int .i64 0] 22 (0, 0)) := by rw [← hX]; exact (Below.heap_setCell w2 _ _ _ (by show w.heap.size + 2 ≠ w.heap.size + 1; omega)).trans HJ.out.2
  have hbX : Below w.heap.size w X := by rw [← hX]; exact HB.out.setCell (p := ⟨w.heap.size + 1, 0, none⟩) (by show w.heap.size ≤ w.heap.size + 1; omega) _
  obtain ⟨Y, hY⟩ : ∃ Y, X.setCell ⟨w.heap.size + 1 + 1, 0, none⟩ (.int .i64 2) = Y := ⟨_, rfl⟩
  have y1 : Y.heap[w.heap.size + 1]? = some (.cells #[.string ⟨#[]⟩] 9 (0, 0)) := by rw [← hY]; exact (Below.heap_setCell X _ _ _ (by show w.heap.size + 1 ≠ w.heap.size + 1 + 1; omega)).trans x1
  have y2 : Y.heap[w.heap.size + 1 + 1]? = some (.cells #[.int .i64 2] 22 (0, 0)) := by rw [← hY]; exact one_setCell x2
  have hbY : Below w.heap.size w Y := by rw [← hY]; exact hbX.setCell (p := ⟨w.heap.size + 1 + 1, 0, none⟩) (by show w.heap.size ≤ w.heap.size + 1 + 1; omega) _
  rw [hX, hY]
  have d1 := cell_of_one y1
  have d2 := cell_of_one y2
  refine ⟨.tuple #[.string ⟨#[]⟩, .int .i64 2], ?_, rfl, hbY⟩
  simp [results, Tryd.results8, go_sem, d1, d2]

set_option maxRecDepth 100000 in
set_option maxHeartbeats 6400000 in
theorem text_yes (x : Prg) (h6 : ∀ f ∈ x.fns, f.body.wt ≤ 1000000) (p q : Option Addr) (c d : Nat) (w : World) (hG : Glob w) (hok : x.Ok w w.heap.size p q) (hm : x.may = true) (hfit : x.fit) (hps : ∀ f ∈ x.fns, f.params.length ≤ 1000000) (hlen : ∀ y ∈ x.lines, y.1 ≤ 1000 ∧ y.2.length ≤ 1000000) :
    Calls Tryd.prog 8 #[x.val p q c d] w fun e w' => e = .returned (.tuple #[.string (str x.out), .int .i64 (x.err : Int)]) ∧ Below w.heap.size w w' := by
  have HMy := Lib.hid (fun (w1 : World) (hB : Below w.heap.size w w1) => may_any x h6 p q c d w.heap.size w1 hB.size (hok.later hB (Nat.le_refl _)))
  rw [hm] at HMy
  have HRes1 := Lib.hid (show x.text.length ≤ 65536 → x.out = x.text ∧ x.err = 0 from fun h => by
    have he : x.err = 0 := by unfold Prg.err; rw [if_pos hm, if_pos h]
    exact ⟨by unfold Prg.out; rw [if_pos he], he⟩)
  have HRes2 := Lib.hid (show ¬ x.text.length ≤ 65536 → x.out = [] ∧ x.err = 3 from fun h => by
    have he : x.err = 3 := by unfold Prg.err; rw [if_pos hm, if_neg h]
    exact ⟨by unfold Prg.out; rw [if_neg (by omega)], he⟩)
  have HSeq := Lib.hid (fun bp n wx => programLines1_all x p q c d bp n w wx hm hfit hps (fun y hy => (hlen y hy).2) hok hG)
  have HLen := Lib.hid hlen
  have hxt : linesT x.lines = x.text := rfl
  obtain ⟨L, hL⟩ : ∃ L, x.lines = L := ⟨_, rfl⟩
  rw [hL] at HSeq HLen hxt
  have HXT := Lib.hid hxt
  obtain ⟨PV, hPV⟩ : ∃ PV : Array Value, PV = #[.slice p x.regs.length c, .slice q x.fns.length d] := ⟨_, rfl⟩
  unfold Prg.val at HMy ⊢
  rw [← hPV] at HMy HSeq ⊢
  have HPV := Lib.hid hPV
  clear hok hm hG hfit hps hlen hL h6 hxt
  rw [hPV]
  refine (callsIn_wide (n := 4)).1 ?_
  refine callsIn_of_wp_marks Tryd.func8 rfl trivial ?_ rfl
  simp only [Tryd.ntmps8, List.size_toArray, List.length_cons, List.length_nil, Nat.reduceAdd, Nat.reduceSub, Array.replicate_succ, Array.replicate_zero, List.push_toArray, List.append_toArray, List.nil_append, List.cons_append]
  gi_wp2_with fail
  obtain ⟨w1, hw1⟩ : ∃ w1, ((w.alloc (.cells #[.slice p x.regs.length c, .slice q x.fns.length d] 43)).alloc (.cells #[.string ⟨#[]⟩] 9)).alloc (.cells #[.int .i64 0] 22) = w1 := ⟨_, rfl⟩
  have hB1 : Below w.heap.size w w1 := by rw [← hw1]; exact (((Below.refl _ w).alloc (Nat.le_refl _) _).alloc (by simp) _).alloc (by simp; omega) _
  have k0 : w1.heap[w.heap.size]? = some (.cells #[.slice p x.regs.length c, .slice q x.fns.length d] 43 (0, 0)) := by
    rw [← hw1, Below.heap_alloc _ _ _ (by simp; omega), Below.heap_alloc _ _ _ (by simp)]; exact heap_alloc_new w _
  have k1 : w1.heap[w.heap.size + 1]? = some (.cells #[.string ⟨#[]⟩] 9 (0, 0)) := by
    rw [← hw1, Below.heap_alloc _ _ _ (by simp)]; have := heap_alloc_new (w.alloc (.cells #[.slice p x.regs.length c, .slice q x.fns.length d] 43)) (.cells #[.string ⟨#[]⟩] 9); simpa using this
  have k2 : w1.heap[w.heap.size + 2]? = some (.cells #[.int .i64 0] 22 (0, 0)) := by
    rw [← hw1]; have := heap_alloc_new ((w.alloc (.cells #[.slice p x.regs.length c, .slice q x.fns.length d] 43)).alloc (.cells #[.string ⟨#[]⟩] 9)) (.cells #[.int .i64 0] 22); simpa using this
  rw [hw1]
  clear hw1
  have l2 := lt_of_block k2
  rw [hPV] at HMy HSeq
  refine ⟨trivial, ?_⟩
  refine (callsIn_wide.2 (HMy.out w1 hB1)).mono ?_
  rintro e w2 ⟨rfl, hB2⟩
  have hBw2 := hB1.trans (hB2.mono hB1.size)
  obtain ⟨w3, hw3⟩ : ∃ w3, w2.alloc (.cells #[.pointer none, .slice none 0 0] 66) = w3 := ⟨_, rfl⟩
  have hB3 : Below w2.heap.size w2 w3 := by rw [← hw3]; exact (Below.refl _ w2).alloc (Nat.le_refl _) _
  have kb : w3.heap[w2.heap.size]? = some (.cells #[.pointer none, .slice none 0 0] 66 (0, 0)) := by rw [← hw3]; exact heap_alloc_new w2 _
  have z2 := hB2.size
  have z3 := hB3.size
  have m0 := (hB3.block _ (by omega)).trans ((hB2.block _ (lt_of_block k0)).trans k0)
  have m1 := (hB3.block _ (by omega)).trans ((hB2.block _ (lt_of_block k1)).trans k1)
  have m2 := (hB3.block _ (by omega)).trans ((hB2.block _ (lt_of_block k2)).trans k2)
  have hBw3 := hBw2.trans (hB3.mono hBw2.size)
  have hb3 : Lib.IsBuilder 66 5 w2.heap.size w2.heap.size (Lib.byteCells (linesT (L.take 0))) w3 := .inl ⟨Nat.le_refl _, _, kb, World.ownsRow_nil _ _ _ _, by simp [Value.ownBlock]⟩
  have p0 : w2.cell? ⟨w.heap.size, 0, none⟩ = some (.slice p x.regs.length c) := cell_block ((hB2.block _ (lt_of_block k0)).trans k0) rfl
  have p1 : w2.cell? ⟨w.heap.size, 1, none⟩ = some (.slice q x.fns.length d) := cell_block ((hB2.block _ (lt_of_block k0)).trans k0) rfl
  have q0 : w3.cell? ⟨w.heap.size, 0, none⟩ = some (.slice p x.regs.length c) := cell_block m0 rfl
  have q1 : w3.cell? ⟨w.heap.size, 1, none⟩ = some (.slice q x.fns.length d) := cell_block m0 rfl
  gi_wp2_with fail
  refine ⟨trivial, ?_⟩
  refine (callsIn_wide.2 (programLines_any _ _ w3)).mono ?_
  rintro e w4 ⟨bp, rfl, hbp, hbz4, hB4⟩
  have z4 := hB4.size
  have lbp := lt_of_block hbp
  have HI : Hid (TX w bp w2.heap.size #[.slice p x.regs.length c, .slice q x.fns.length d] L 0 w4) := Lib.hid
    { pr := hbp
      bd := builder_rn hb3 (Rn.of_below hB4 (Nat.le_refl _))
      r0 := (hB4.block _ (by omega)).trans m1
      r1 := (hB4.block _ (by omega)).trans m2
      bw := hBw3.trans (hB4.mono (by omega))
      ln := by simp [linesT]
      fr := fun _ => (hB4.block _ (lt_of_block kb)).trans kb }
  have hz : w.heap.size + 2 < w2.heap.size ∧ w2.heap.size < w4.heap.size ∧ bp < w4.heap.size := by
    have := lt_of_block kb
    exact ⟨by omega, by omega, lbp⟩
  clear k0 k1 k2 l2 z2 z3 z4 m0 m1 m2 p0 p1 q0 q1 kb hw3 hb3 hB1 hB2 hB3 hB4 hBw2 hBw3 hbp hbz4 lbp HMy
  generalize w2.heap.size = nb at *
  gi_wp2_with fail
  refine range_own (F := Fence.wide) rfl (by omega) (gf := 39) (lb := #[.pointer (some ⟨bp, 0, none⟩)]) rfl trivial (enters_of Tryd.func39 (by kernel_rfl) rfl)
    (HSeq.out bp (4 - 1) w4) (Below.refl _ w4) (fun _ => rfl)
    (fun k W => TX w bp nb #[.slice p x.regs.length c, .slice q x.fns.length d] L k W)
    (fun cd _ W => cd = .ret ∧ ¬ x.text.length ≤ 65536 ∧ W.heap[w.heap.size + 1]? = some (.cells #[.string ⟨#[]⟩] 9 (0, 0)) ∧ W.heap[w.heap.size + 2]? = some (.cells #[.int .i64 3] 22 (0, 0)) ∧ Below w.heap.size w W)
    (fun k A h => ⟨h.bw, h.pr⟩)
    (fun k A B h hAB => h.rn hAB hz.2.2 (by omega))
    (fun cd k A B h hAB => ⟨h.1, h.2.1, (hAB.bel.block _ (by omega)).trans h.2.2.1, (hAB.bel.block _ (by omega)).trans h.2.2.2.1, h.2.2.2.2.trans (hAB.bel.mono (by omega))⟩) HI.out (fun _ _ _ => True) (fun _ _ _ _ _ _ => trivial) ?_ ?_ ?_ ?_ ?_
  rotate_left
  · intro l k y W K hx hi hW hK
    simp only [encL]
    simp only [List.zip_toArray, List.zip_cons_cons, List.zip_nil_left]
    gi_wp2_with fail
    obtain ⟨bb, _⟩ : ∃ bb : Nat, bb = 0 := ⟨_, rfl⟩
    exact hK bb _ (Below.refl _ _) trivial
  · intro l k y bb W hx hi hA hW
    obtain ⟨tb, ln⟩ := y
    obtain ⟨htb, hll⟩ := HLen.out _ (List.mem_of_getElem? hx)
    have hkL := (List.getElem?_eq_some_iff.1 hx).1
    simp only [] at htb hll
    have ht := linesT_take hx
    simp only [] at ht
    have hnW : nb ≤ W.heap.size := by omega
    have hln := size_len (str ln)
    rw [str_data] at hln
    have hlt := size_len (str (List.replicate tb 9))
    rw [str_data, List.length_replicate] at hlt
    have hcl := cells_len (linesT (L.take k))
    have h65 := hi.ln
    gi_wp2_with fail
    refine ⟨trivial, ?_⟩
    refine (CallsIn.inRound l (callsIn_wide.2 (repeat_tab tb htb W))).mono ?_
    rintro e wA ⟨rfl, hBA⟩
    have hiA := hi.rn (Rn.of_below hBA (Nat.le_of_lt hW)) hz.2.2 (by omega)
    have hzA := hBA.size
    gi_wp2_with fail
    refine ⟨trivial, ?_⟩
    refine (CallsIn.inRound l (callsIn_wide.2 (writeString_any nb nb _ (str (List.replicate tb 9)) wA hiA.bd (by rw [hcl, hlt]; omega) (by omega)))).mono ?_
    rintro e w5 ⟨rfl, hb5, hB5, hk5⟩
    have z5 := hB5.size
    rw [str_cells, ← cells_app] at hb5
    gi_wp2_with fail
    refine ⟨trivial, ?_⟩
    refine (CallsIn.inRound l (callsIn_wide.2 (writeString_any nb nb _ (str ln) w5 (.inr hb5) (by rw [cells_len, hln, List.length_append, List.length_replicate]; omega) (by omega)))).mono ?_
    rintro e w6 ⟨rfl, hb6, hB6, hk6⟩
    have z6 := hB6.size
    rw [str_cells, ← cells_app] at hb6
    gi_wp2_with fail
    refine ⟨trivial, ?_⟩
    refine (CallsIn.inRound l (callsIn_wide.2 (writeByte_any nb nb _ 10 w6 (.inr hb6) (by rw [cells_len]; simp only [List.length_append, List.length_replicate]; omega) (by omega)))).mono ?_
    rintro e w7 ⟨rfl, hb7, hB7, hk7⟩
    have z7 := hB7.size
    rw [← cells_one, ← cells_app] at hb7
    have ht7 : linesT (L.take k) ++ List.replicate tb 9 ++ ln ++ [10] = linesT (L.take (k + 1)) := by rw [ht]; simp
    rw [ht7] at hb7
    have hU : Up w4.heap.size W w7 := ((Up.refl w4.heap.size W).below hBA).trans ((hk5.trans (hk6.trans hk7)).up _)
    have hB : Below nb wA w7 := hB5.trans (hB6.trans hB7)
    have hk := hk5.trans (hk6.trans hk7)
    have hpr : w7.heap[bp]? = some (.cells #[.slice p x.regs.length c, .slice q x.fns.length d] 43 (0, 0)) := hk.same _ _ hiA.pr (by intro h; rcases h with h | h <;> exact absurd h (by decide))
    have hr0 := (hB.block _ (by omega)).trans hiA.r0
    have hr1 := (hB.block _ (by omega)).trans hiA.r1
    have hbw := hiA.bw.trans (hB.mono (by omega))
    have HT := Lib.hid (show Up w4.heap.size W w7 ∧ ((linesT (L.take (k + 1))).length ≤ 65536 → TX w bp nb #[.slice p x.regs.length c, .slice q x.fns.length d] L (k + 1) w7) from
      ⟨hU, fun h => ⟨hpr, .inr hb7, hr0, hr1, hbw, h, fun e => by omega⟩⟩)
    have HR := Lib.hid (And.intro hr0 (And.intro hr1 hbw))
    have c1 := cell_of_one hr0
    have c2 := cell_of_one hr1
    have f1 := free_of_one hr0
    have f2 := free_of_one hr1
    have hLen := Tryd.Builder_Len nb nb _ w7 (.inr hb7)
    rw [cells_len] at hLen
    have hle := linesT_le L (k + 1)
    rw [HXT.out] at hle
    clear hb5 hb6 hb7 hB5 hB6 hB7 hk5 hk6 hk7 ht ht7 hln hcl hU hB hk hpr hr0 hr1 hbw hi hiA hBA
    gi_wp2_with fail
    refine ⟨trivial, ?_⟩
    refine (CallsIn.inRound l (callsIn_wide.2 hLen)).mono ?_
    rintro e wr ⟨rfl, rfl⟩
    clear hLen
    by_cases hg : (linesT (L.take (k + 1))).length ≤ 65536
    · have hgt : ¬ ((65536 : Int) < ((linesT (L.take (k + 1))).length : Int)) := by omega
      gi_wp2_with fail
      exact ⟨HT.out.1, HT.out.2 hg⟩
    · have hgt : (65536 : Int) < ((linesT (L.take (k + 1))).length : Int) := by omega
      have hbig : ¬ x.text.length ≤ 65536 := by omega
      gi_wp2_with fail
      have hr1 : (wr.setCell ⟨w.heap.size + 1, 0, none⟩ (.string ⟨#[]⟩)).heap[w.heap.size + 2]? = some (.cells #[.int .i64 0] 22 (0, 0)) := (Below.heap_setCell wr _ _ _ (by show w.heap.size + 2 ≠ w.heap.size + 1; omega)).trans HR.out.2.1
      refine ⟨(HT.out.1.setCell (p := ⟨w.heap.size + 1, 0, none⟩) (by show w.heap.size + 1 < w4.heap.size; omega) _).setCell (p := ⟨w.heap.size + 1 + 1, 0, none⟩) (by show w.heap.size + 1 + 1 < w4.heap.size; omega) _, rfl, hbig, ?_, one_setCell (b := w.heap.size + 1 + 1) hr1, (HR.out.2.2.setCell (p := ⟨w.heap.size + 1, 0, none⟩) (by show w.heap.size ≤ w.heap.size + 1; omega) _).setCell (p := ⟨w.heap.size + 1 + 1, 0, none⟩) (by show w.heap.size ≤ w.heap.size + 1 + 1; omega) _⟩
      exact (Below.heap_setCell _ _ _ _ (by show w.heap.size + 1 ≠ w.heap.size + 1 + 1; omega)).trans (one_setCell HR.out.1)
  · rintro D W hD hi hDh
    have lW := lt_of_block hDh
    have htx : linesT (L.take L.length) = x.text := by rw [List.take_length, HXT.out]
    have hle : x.text.length ≤ 65536 := by rw [← htx]; exact hi.ln
    obtain ⟨ho, he⟩ := HRes1.out hle
    have HStr : Hid (Calls Tryd.prog 24 #[.pointer (some ⟨nb, 0, none⟩)] W fun e w' => e = .returned (.string (str x.text)) ∧ Below nb W w' ∧ w'.heap[D]? = some (.deferred (some []))) := Lib.hid (by
      by_cases h0 : x.text = []
      · have hL0 : L.length = 0 := by
          cases hLL : L with
          | nil => rfl
          | cons y r => rw [hLL] at HXT; have := congrArg List.length (HXT.out.trans h0); simp [linesT, lineT] at this
        refine (string_fresh nb W (hi.fr hL0)).mono ?_
        rintro e w' ⟨rfl, hB⟩
        exact ⟨by rw [h0]; rfl, hB.mono (by omega), (hB.block _ lW).trans hDh⟩
      · have hbd := hi.bd
        rw [htx] at hbd
        refine (string_any nb nb x.text W hbd h0).mono ?_
        rintro e w' ⟨rfl, hB, hK⟩
        exact ⟨rfl, hB, hK.same _ _ hDh (buf_def _)⟩)
    gi_wp2_with fail
    refine ⟨trivial, ?_⟩
    refine (callsIn_wide.2 HStr.out).mono ?_
    rintro e w5 ⟨rfl, hB5, kD⟩
    have k1 := (hB5.block _ (by omega)).trans hi.r0
    have k2 := (hB5.block _ (by omega)).trans hi.r1
    have c1 := cell_of_one k1
    have c2 := cell_of_one k2
    have f1 := free_of_one k1
    have f2 := free_of_one k2
    have hbw := hi.bw.trans (hB5.mono (by omega))
    have HH := Lib.hid (And.intro k1 (And.intro k2 (And.intro kD hbw)))
    clear k1 k2 kD hbw hB5 HStr hi hDh
    gi_wp2_with fail
    obtain ⟨k1, k2, kD, hbw⟩ := HH.out
    obtain ⟨X, hX⟩ : ∃ X, w5.setCell ⟨w.heap.size + 1, 0, none⟩ (.string (str x.text)) = X := ⟨_, rfl⟩
    have x1 : X.heap[w.heap.size + 1]? = some (.cells #[.string (str x.text)] 9 (0, 0)) := by rw [← hX]; exact one_setCell k1
    have x2 : X.heap[w.heap.size + 2]? = some (.cells #[.int .i64 0] 22 (0, 0)) := by rw [← hX]; exact (Below.heap_setCell w5 _ _ _ (by show w.heap.size + 2 ≠ w.heap.size + 1; omega)).trans k2
    have xD : X.heap[D]? = some (.deferred (some [])) := by rw [← hX]; exact (Below.heap_setCell w5 _ _ _ (by show D ≠ w.heap.size + 1; omega)).trans kD
    have hbX : Below w.heap.size w X := by rw [← hX]; exact hbw.setCell (p := ⟨w.heap.size + 1, 0, none⟩) (by show w.heap.size ≤ w.heap.size + 1; omega) _
    obtain ⟨Y, hY⟩ : ∃ Y, X.setCell ⟨w.heap.size + 1 + 1, 0, none⟩ (.int .i64 0) = Y := ⟨_, rfl⟩
    have y1 : Y.heap[w.heap.size + 1]? = some (.cells #[.string (str x.text)] 9 (0, 0)) := by rw [← hY]; exact (Below.heap_setCell X _ _ _ (by show w.heap.size + 1 ≠ w.heap.size + 1 + 1; omega)).trans x1
    have y2 : Y.heap[w.heap.size + 1 + 1]? = some (.cells #[.int .i64 0] 22 (0, 0)) := by rw [← hY]; exact one_setCell x2
    have yD : Y.heap[D]? = some (.deferred (some [])) := by rw [← hY]; exact (Below.heap_setCell X _ _ _ (by show D ≠ w.heap.size + 1 + 1; omega)).trans xD
    have hbY : Below w.heap.size w Y := by rw [← hY]; exact hbX.setCell (p := ⟨w.heap.size + 1 + 1, 0, none⟩) (by show w.heap.size ≤ w.heap.size + 1 + 1; omega) _
    rw [hX, hY]
    have d1 : (Y.putObj D (.deferred none)).cell? ⟨w.heap.size + 1, 0, none⟩ = some (.string (str x.text)) := (World.cell?_of_block (World.putObj_heap_other (by show w.heap.size + 1 ≠ D; omega))).trans (cell_of_one y1)
    have d2 : (Y.putObj D (.deferred none)).cell? ⟨w.heap.size + 1 + 1, 0, none⟩ = some (.int .i64 0) := (World.cell?_of_block (World.putObj_heap_other (by show w.heap.size + 1 + 1 ≠ D; omega))).trans (cell_of_one y2)
    have hbZ : Below w.heap.size w (Y.putObj D (.deferred none)) := hbY.trans ⟨rfl, rfl, rfl, by simp, fun _ hk => World.putObj_heap_other (by omega)⟩
    refine ⟨by simp, .inl ⟨_, _, rfl, run_takeDeferred yD, ?_⟩⟩
    refine ⟨.tuple #[.string (str x.text), .int .i64 0], ?_, by rw [ho, he]; rfl, hbZ⟩
    simp [results, Tryd.results8, go_sem, d1, d2]
  · rintro D cd k W hD hk ⟨hc, hbig, k1, k2, hbw⟩ hDh
    subst hc
    obtain ⟨ho, he⟩ := HRes2.out hbig
    have lW := lt_of_block hDh
    have HH := Lib.hid (And.intro k1 (And.intro k2 (And.intro hDh hbw)))
    clear k1 k2 hDh hbw
    gi_wp2_with fail
    obtain ⟨k1, k2, hDh, hbw⟩ := HH.out
    have d1 : (W.putObj D (.deferred none)).cell? ⟨w.heap.size + 1, 0, none⟩ = some (.string ⟨#[]⟩) := (World.cell?_of_block (World.putObj_heap_other (by show w.heap.size + 1 ≠ D; omega))).trans (cell_of_one k1)
    have d2 : (W.putObj D (.deferred none)).cell? ⟨w.heap.size + 1 + 1, 0, none⟩ = some (.int .i64 3) := (World.cell?_of_block (World.putObj_heap_other (by show w.heap.size + 1 + 1 ≠ D; omega))).trans (cell_of_one k2)
    have hbZ : Below w.heap.size w (W.putObj D (.deferred none)) := hbw.trans ⟨rfl, rfl, rfl, by simp, fun _ hk => World.putObj_heap_other (by omega)⟩
    refine ⟨by simp, .inl ⟨_, _, rfl, run_takeDeferred hDh, ?_⟩⟩
    refine ⟨.tuple #[.string ⟨#[]⟩, .int .i64 3], ?_, by rw [ho, he]; rfl, hbZ⟩
    simp [results, Tryd.results8, go_sem, d1, d2]
end Go.Proofs.YtkjhofnkgcjcoaaDoor
/- The closed sentence's statements and programs, plainly. -/
namespace Go.Proofs.YtkjhofnkgcjcoaaDoor
open Go.RowKit

def stSet (e : Ex) : St := .mk 1 [120] [] e E0 .nil 0 0 .nil .nil
def xY : Ex := .mk 2 0 [121] .nil
def stLow : St := .mk 1 [120] [] xY E0 .nil 1 0 .nil .nil
def stOther : St := .mk 4 [] [] xY E0 .nil 0 0 .nil (.cons (stSet (nst 62)) .nil)
def stZero : St := .mk 4 [] [] E0 E0 .nil 0 0 .nil .nil
def stCall : St := .mk 6 [102] [] E0 E0 .nil 0 0 .nil .nil
/-- a statement that is as small as asked, and so many lines -/
structure Sml (x : St) (n : Nat) : Prop where
  wt : (Sts.cons x .nil).wt ≤ 1000000
  tot : (Sts.cons x .nil).total ≤ 100000
  ln : (Sts.cons x .nil).can = true → ((Sts.cons x .nil).lines 0).length ≤ 1000000 ∧ ∀ y ∈ (Sts.cons x .nil).lines 0, y.2.length ≤ 1000000
  n : (if (Sts.cons x .nil).can then ((Sts.cons x .nil).lines 0).length else 0) = n
theorem sml_of {x : St} {n : Nat} (h : (decide ((Sts.cons x .nil).wt ≤ 1000000) && decide ((Sts.cons x .nil).total ≤ 100000) && decide (((Sts.cons x .nil).lines 0).length ≤ 1000000) && ((Sts.cons x .nil).lines 0).all (fun y => decide (y.2.length ≤ 1000000)) && decide ((if (Sts.cons x .nil).can then ((Sts.cons x .nil).lines 0).length else 0) = n)) = true) : Sml x n := by
  simp only [Bool.and_eq_true, decide_eq_true_eq, List.all_eq_true] at h
  exact ⟨h.1.1.1.1, h.1.1.1.2, fun _ => ⟨h.1.1.2, h.1.2⟩, h.2⟩
theorem sml_set : Sml (stSet (nst 62)) 1 := sml_of (by kernel_rfl)
theorem sml_more : Sml (stSet (nst 63)) 0 := sml_of (by kernel_rfl)
theorem sml_low : Sml stLow 0 := sml_of (by kernel_rfl)
theorem sml_other : Sml stOther 0 := sml_of (by kernel_rfl)
theorem sml_zero : Sml stZero 0 := sml_of (by kernel_rfl)
theorem sml_call : Sml stCall 1 := sml_of (by kernel_rfl)
theorem lines_of {x : St} {n : Nat} (hx : Sml x n) (s : StP) (w : World) (hG : Glob w) (h : x.Ok w w.heap.size s) :
    Calls Tryd.prog 10 #[x.val s, .int .i64 (n : Int)] w fun e w' => e = .returned (.bool true) ∧ Below w.heap.size w w' := by
  have h1 := lines_any x s n w hG h hx.wt hx.tot hx.ln
  rw [hx.n, decide_eq_true (rfl : n = n)] at h1
  exact h1
/-- so many times x = 1000000 -/
def rep : Nat → Sts
  | 0 => .nil
  | n + 1 => .cons (stSet (xN 1000000)) (rep n)
theorem rep_len : ∀ n, (rep n).len = n
  | 0 => rfl
  | n + 1 => by rw [rep, Sts.len, rep_len n]
theorem rep_may : ∀ n, (rep n).may = true
  | 0 => rfl
  | n + 1 => by rw [rep, Sts.may, rep_may n]; kernel_rfl
theorem rep_deep : ∀ n, (rep n).deep ≤ 64
  | 0 => Nat.zero_le _
  | n + 1 => by
    have := rep_deep n
    have h : (stSet (xN 1000000)).deep = 2 := by kernel_rfl
    rw [rep, Sts.deep, h]; omega
theorem rep_wt : ∀ n, (rep n).wt = 3 * n
  | 0 => rfl
  | n + 1 => by
    have h : (stSet (xN 1000000)).wt = 3 := by kernel_rfl
    rw [rep, Sts.wt, h, rep_wt n]; omega
theorem rep_can (n : Nat) : (rep n).can = true := by
  unfold Sts.can
  rw [rep_may, decide_eq_true (rep_deep n)]; rfl
def setL : List UInt8 := [120, 32, 61, 32, 49, 48, 48, 48, 48, 48, 48, 59]
theorem set_line : (stSet (xN 1000000)).lines 1 = [(1, setL)] := by
  have h : (xN 1000000).text = Lib.decDigits 1000000 := rfl
  have h2 : Lib.decDigits 1000000 = [49, 48, 48, 48, 48, 48, 48] := by decide +kernel
  show [(1, firstT 1 [120] [] (xN 1000000).text E0.text [] 0 0)] = _
  rw [h, h2]
  rfl
theorem rep_lines : ∀ n, (rep n).lines 1 = List.replicate n (1, setL)
  | 0 => rfl
  | n + 1 => by rw [rep, Sts.lines, rep_lines n, set_line, List.replicate_succ]; rfl
def longF : Fnc := ⟨[102], [], [], [], rep 7000⟩
def longP : Prg := ⟨[], [longF]⟩
theorem long_may : longP.may = true := by
  show (true && ([longF].all Fnc.may)) = true
  simp only [List.all_cons, List.all_nil, Bool.and_true, Bool.true_and]
  unfold Fnc.may
  rw [show longF.body = rep 7000 from rfl, rep_can]
  kernel_rfl
theorem long_lines : longP.lines = (0, longF.head) :: (List.replicate 7000 (1, setL) ++ [(0, [125])]) := by
  show [] ++ (longF.lines ++ []) = _
  rw [List.nil_append, List.append_nil]
  unfold Fnc.lines
  rw [show longF.body = rep 7000 from rfl, rep_lines]
  rfl
theorem lines_rep (n : Nat) (x : Nat × List UInt8) : (linesT (List.replicate n x)).length = n * (lineT x).length := by
  induction n with
  | zero => simp [linesT]
  | succ n ih => rw [List.replicate_succ, show linesT (x :: List.replicate n x) = lineT x ++ linesT (List.replicate n x) from rfl, List.length_append, ih, Nat.succ_mul]; omega
theorem long_text : 65536 < longP.text.length := by
  unfold Prg.text
  rw [long_lines]
  have h : linesT ((0, longF.head) :: (List.replicate 7000 (1, setL) ++ [(0, [125])])) = lineT (0, longF.head) ++ (linesT (List.replicate 7000 (1, setL)) ++ linesT [(0, [125])]) := by
    unfold linesT
    rw [List.flatMap_cons, List.flatMap_append]
  rw [h, List.length_append, List.length_append, lines_rep, show (lineT (1, setL)).length = 14 from rfl]
  omega
theorem long_err : longP.err = 3 := by
  unfold Prg.err
  rw [long_may]
  simp only [if_true]
  rw [if_neg (by have := long_text; omega)]
theorem long_fit : longP.fit := ⟨(fun r hr => by cases hr), fun f hf => by
  rcases List.mem_singleton.1 hf with rfl
  exact ⟨(fun v hv => by cases hv), fun v hv => by cases hv⟩⟩
theorem long_hl : ∀ y ∈ longP.lines, y.1 ≤ 1000 ∧ y.2.length ≤ 1000000 := fun y hy => by
  rw [long_lines] at hy
  rcases List.mem_cons.1 hy with rfl | hy
  · exact ⟨Nat.zero_le _, of_decide_eq_true (by kernel_rfl)⟩
  · rcases List.mem_append.1 hy with hy | hy
    · rw [(List.mem_replicate.1 hy).2]; exact ⟨by decide, by decide⟩
    · rcases List.mem_singleton.1 hy with rfl
      exact ⟨by decide, by decide⟩
theorem long_any (p q : Option Addr) (c d : Nat) (w : World) (hG : Glob w) (hok : longP.Ok w w.heap.size p q) :
    Calls Tryd.prog 8 #[longP.val p q c d] w fun e w' => (∃ s : ByteArray, e = .returned (.tuple #[.string s, .int .i64 3])) ∧ Below w.heap.size w w' := by
  refine (text_yes longP (fun f hf => ?_) p q c d w hG hok long_may long_fit (fun f hf => ?_) long_hl).mono ?_
  · rcases List.mem_singleton.1 hf with rfl
    show (rep 7000).wt ≤ _
    rw [rep_wt]; omega
  · rcases List.mem_singleton.1 hf with rfl
    exact Nat.zero_le _
  · rintro e w' ⟨rfl, hB⟩
    rw [long_err]
    exact ⟨⟨_, rfl⟩, hB⟩
/-- the other programs -/
def parP : Prg := ⟨[], [⟨[102], [⟨[120], 3, 0, false⟩], [], [], .nil⟩]⟩
def wrdP : Prg := ⟨[], [⟨[102], [], [⟨[120], 1, 0, true⟩], [], .nil⟩]⟩
theorem par_no : parP.may = false := by kernel_rfl
theorem wrd_no : wrdP.may = false := by kernel_rfl
theorem emp_yes : (⟨[], []⟩ : Prg).may = true := by kernel_rfl
end Go.Proofs.YtkjhofnkgcjcoaaDoor
