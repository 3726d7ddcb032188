/- once, of any memory: as many words as are asked for. -/
import Derived.Test.YtajjpaabkdgjbaaF3
import Derived.Test.YtajjpaabkdgjbaaE6
import Derived.Test.YtajjpaabkdgjbaaE7
import Derived.Test.YtajjpaabkdgjbaaG1
namespace Go.Proofs.Ytajjpaabkdgjbaa
open Go.RowKit Go.Shelf
attribute [local go_sem] Oper.semAt_some

set_option maxRecDepth 100000 in
set_option maxHeartbeats 3200000 in
theorem all1_pre (F : Fence) (n : Nat) (h63 : F.fn 49) (hro : F.round = none) (hn : 1 ≤ n) (N c : Nat) (f : Nat → Nat) (js : List Nat) (w : World) (hF : FoundIs w N c f js) (hjm : js.length ≤ 8192) :
    SeqStopsK F n Try.prog 49 #[.pointer (some ⟨c, 0, none⟩)] (encF f js) (Band N w.heap.size) (fun xs => xs = List.finRange js.length) (fun pre => pre = (List.finRange js.length).take pre.length) js.length w := fun l J Jx W hW hJ _ hY h0 => by
  have HY := Lib.hid hY
  have HJ := Lib.hid hJ
  have HJ0 := Lib.hid h0
  have HWb := Lib.hid hW
  obtain ⟨q, cp, hc, hNc, hcz, hrow⟩ := hF
  have hcc := (hW.cell (p := ⟨c, 0, none⟩) hcz).trans hc
  have HR := Lib.hid hrow
  clear hc hrow hY hJ h0 hW
  refine callsIn_of_wp Try.func49 rfl h63 ?_ hro
  simp only [Try.ntmps49, List.size_toArray, List.length_cons, List.length_nil, Nat.reduceAdd, Nat.reduceSub, Array.replicate_succ, Array.replicate_zero, List.push_toArray, List.append_toArray, List.nil_append, List.cons_append]
  gi_wp2
  gi_loopw [7] (fun i wr => ∃ k : Nat, i = .int .i64 k ∧ k ≤ js.length ∧ Hid (J ((List.finRange js.length).take k) wr) ∧ Hid (Band N w.heap.size W wr)) (fun i _ => js.length - (intOf i).toNat)
  case atStart => exact ⟨0, rfl, Nat.zero_le _, Lib.hid (by simpa using HJ0.out), Lib.hid (Band.refl _ _ _)⟩
  case round =>
    obtain ⟨k, rfl, hk, hJk, hB⟩ := hrel
    by_cases hlt : k < js.length
    · obtain ⟨gb, rfl, hgN, hgz, hcells⟩ : ∃ gb, q = some ⟨gb, 0, none⟩ ∧ N ≤ gb ∧ gb < w.heap.size ∧ ∀ i j, js[i]? = some j → w.cell? ⟨gb, i * 2, none⟩ = some (.int .u64 ((8 * j : Nat) : Int)) ∧ w.cell? ⟨gb, i * 2 + 1, none⟩ = some (.int .u64 (f j : Nat)) := by
        rcases HR.out with h | h
        · omega
        · exact h
      obtain ⟨j, hj⟩ : ∃ j, js[k] = j := ⟨_, rfl⟩
      have hjk : js[k]? = some j := by rw [List.getElem?_eq_getElem hlt, hj]
      obtain ⟨c0, c1⟩ := hcells k j hjk
      have d0 := (hB.out.cell (o := k * 2) hgN hgz).trans ((HWb.out.cell (p := ⟨gb, k * 2, none⟩) hgz).trans c0)
      have d1 := (hB.out.cell (o := k * 2 + 1) hgN hgz).trans ((HWb.out.cell (p := ⟨gb, k * 2 + 1, none⟩) hgz).trans c1)
      have i0 : (0 : Int) ≤ (k : Int) := by omega
      have i1 : (k : Int) < (js.length : Int) := by omega
      clear hcells c0 c1
      gi_wp2
      have he : encF f js ⟨k, hlt⟩ = #[.int .u64 (8 * (j : Int)), .int .u64 (f j : Nat)] := by
        have hk2 : js[(⟨k, hlt⟩ : Fin js.length)] = j := hj
        unfold encF; rw [hk2]; simp
      have hJ2 : J ((List.finRange js.length).take k) (wr.alloc (.cells #[.int .u64 (8 * (j : Int)), .int .u64 (f j : Nat)] 94 (0, 0))) := HJ.out _ wr _ none hJk.out (World.grownBy_alloc _ _ _) (fun r e => by cases e)
      have hyy := HY.out _ ⟨k, hlt⟩ _ hJ2 (by simp; omega)
      rw [he] at hyy
      have hE : (List.finRange js.length).take (k + 1) = (List.finRange js.length).take k ++ [⟨k, hlt⟩] := by
        rw [List.take_add_one, List.getElem?_eq_getElem (by simpa using hlt)]
        simp
      rw [← hE] at hyy
      have hb2 : Band N w.heap.size wr (wr.alloc (.cells #[.int .u64 (8 * (j : Int)), .int .u64 (f j : Nat)] 94 (0, 0))) := Band.of ((Below.refl _ _).alloc (Nat.le_refl _) _) (Nat.le_trans HWb.out.size hB.out.size)
      have HB2 := Lib.hid (hB.out.trans hb2)
      clear hb2 hJ2 hE he
      obtain ⟨fn, tmps, assign, body, hy, hR⟩ := hyy
      rw [hy]
      gi_wp2
      refine hR.mono ?_
      rintro e W3 (⟨rfl, hJ3, hk3⟩ | ⟨rfl, hJx3⟩)
      · have HJ3 := Lib.hid hJ3
        have HB3 := Lib.hid (HB2.out.trans hk3)
        clear hJ3 hk3 hR hy d0 d1
        gi_wp2
        go_roundw
        case rel => exact ⟨k + 1, by go_num, by omega, HJ3, HB3⟩
        case measure => simp [intOf]; omega
      · have HX3 := Lib.hid hJx3
        clear hJx3 hR hy d0 d1
        gi_wp2
        refine bodyPost_ret (results_none rfl _ _ _) rfl ?_
        exact ⟨⟨_, rfl⟩, .inr ⟨_, by rw [List.length_take, List.length_finRange, Nat.min_eq_left (by omega)], HX3.out⟩⟩
    · obtain rfl : k = js.length := by omega
      gi_wp2
      go_end0
      exact ⟨⟨_, rfl⟩, .inl ⟨_, rfl, by have := hJk.out; rwa [List.take_of_length_le (by simp)] at this⟩⟩

/-- what holds between two rounds of once -/
structure OInv (w w4 : World) (k : Nat) (W : World) : Prop where
  bel : Below w.heap.size w W
  same : ∀ i, i < w4.heap.size → i ≠ w.heap.size + 2 → i ≠ w.heap.size + 3 → W.heap[i]? = w4.heap[i]?
  res : W.cell? ⟨w.heap.size + 2, 0, none⟩ = some (.bool false)
  resf : W.frozen? ⟨w.heap.size + 2, 0, none⟩ = false
  n : W.cell? ⟨w.heap.size + 3, 0, none⟩ = some (.int .i64 (k : Int))
  nf : W.frozen? ⟨w.heap.size + 3, 0, none⟩ = false
  sz : w4.heap.size ≤ W.heap.size
theorem OInv.cell {w w4 : World} {k : Nat} {W : World} (h : OInv w w4 k W) {b o : Nat} (h1 : b < w4.heap.size) (h2 : b ≠ w.heap.size + 2) (h3 : b ≠ w.heap.size + 3) : W.cell? ⟨b, o, none⟩ = w4.cell? ⟨b, o, none⟩ :=
  World.cell?_of_block (h.same b h1 h2 h3)
theorem OInv.below {w w4 : World} {k : Nat} {W W' : World} (h : OInv w w4 k W) (hB : Below w4.heap.size W W') (hM : w.heap.size + 3 < w4.heap.size) : OInv w w4 k W' :=
  ⟨h.bel.trans (hB.mono (by omega)), fun i h1 h2 h3 => (hB.block i h1).trans (h.same i h1 h2 h3), (hB.cell (p := ⟨w.heap.size + 2, 0, none⟩) (by show w.heap.size + 2 < _; omega)).trans h.res, (hB.frozen (p := ⟨w.heap.size + 2, 0, none⟩) (by show w.heap.size + 2 < _; omega)).trans h.resf,
    (hB.cell (p := ⟨w.heap.size + 3, 0, none⟩) hM).trans h.n, (hB.frozen (p := ⟨w.heap.size + 3, 0, none⟩) hM).trans h.nf, Nat.le_trans h.sz hB.size⟩
theorem OInv.next {w w4 : World} {k : Nat} {W : World} (h : OInv w w4 k W) (z : Int) (hz : z = ((k + 1 : Nat) : Int)) : OInv w w4 (k + 1) (W.setCell ⟨w.heap.size + 3, 0, none⟩ (.int .i64 z)) := by
  subst hz
  refine ⟨h.bel.setCell (p := ⟨w.heap.size + 3, 0, none⟩) (by show w.heap.size ≤ w.heap.size + 3; omega) _, fun i h1 h2 h3 => (Below.heap_setCell _ _ _ _ h3).trans (h.same i h1 h2 h3), ?_, by rw [World.frozen?_setCell]; exact h.resf, World.cell?_setCell_same _ _ _ h.n, by rw [World.frozen?_setCell]; exact h.nf, by simpa [World.setCell] using h.sz⟩
  rw [World.cell?_setCell_other _ _ _ _ (fun e => by have := congrArg Addr.block e; simp at this)]; exact h.res
/-- how a round is left -/
def OStop (w w4 : World) (n : Nat) (c : Code) (pre : List (Fin n)) (W : World) : Prop :=
  c = .ret ∧ Below w.heap.size w W ∧ w4.heap.size ≤ W.heap.size ∧ (pre = (List.finRange n).take pre.length → W.cell? ⟨w.heap.size + 2, 0, none⟩ = some (.bool true))
theorem OStop.own {w w4 : World} {n : Nat} (c : Code) (hM : w.heap.size + 3 < w4.heap.size) : OwnFrom w4.heap.size (OStop w w4 n c) := fun s A B row hs hg hr => by
  obtain ⟨h1, h2, h3, h4⟩ := hs
  have hB : Below w4.heap.size A B := (Below.refl _ A).grown hg h3 (fun k e => (hr k e).1)
  exact ⟨h1, h2.trans (hB.mono (by omega)), Nat.le_trans h3 hB.size, fun e => (hB.cell (p := ⟨w.heap.size + 2, 0, none⟩) (by show w.heap.size + 2 < _; omega)).trans (h4 e)⟩
theorem OInv.own {w w4 : World} {n : Nat} (hM : w.heap.size + 3 < w4.heap.size) : OwnFrom w4.heap.size (fun (pre : List (Fin n)) W => OInv w w4 pre.length W) := fun s A B row hs hg hr =>
  hs.below ((Below.refl _ A).grown hg hs.sz (fun k e => (hr k e).1)) hM
theorem FoundIs.later {w w' : World} {N c : Nat} {f : Nat → Nat} {js : List Nat} (h : FoundIs w N c f js) (hB : Below w.heap.size w w') : FoundIs w' N c f js := by
  obtain ⟨q, cp, h1, h2, h3, h4⟩ := h
  refine ⟨q, cp, (hB.cell (p := ⟨c, 0, none⟩) h3).trans h1, h2, Nat.lt_of_lt_of_le h3 hB.size, ?_⟩
  rcases h4 with h4 | ⟨gb, k1, k2, k3, k4⟩
  · exact .inl h4
  · exact .inr ⟨gb, k1, k2, Nat.lt_of_lt_of_le k3 hB.size, fun i j hj => ⟨(hB.cell (p := ⟨gb, i * 2, none⟩) k3).trans (k4 i j hj).1, (hB.cell (p := ⟨gb, i * 2 + 1, none⟩) k3).trans (k4 i j hj).2⟩⟩
theorem u64s_adrs {f : Nat → Nat} {k i : Nat} (hi : i < (nz f k).length) : (u64s (adrs f k))[i]? = some (.int .u64 (8 * ((nz f k)[i] : Int))) := by
  unfold u64s adrs
  rw [List.map_map, List.getElem?_map, List.getElem?_eq_getElem hi]
  simp
theorem keeps_below {W W' : World} (hB : Below W.heap.size W W') : KeepsOthers W W' := ⟨hB.size, fun k o hk _ => (hB.block k (Array.getElem?_eq_some_iff.1 hk).1).trans hk⟩
theorem adrs_get {f : Nat → Nat} {k i : Nat} {x : Value} (h : (u64s (adrs f k))[i]? = some x) : ∃ hi : i < (nz f k).length, x = .int .u64 (8 * ((nz f k)[i] : Int)) := by
  unfold u64s adrs at h
  rw [List.map_map, List.getElem?_map] at h
  rcases hg : (nz f k)[i]? with _ | j
  · rw [hg] at h; cases h
  · rw [hg] at h
    obtain ⟨hi, e⟩ := List.getElem?_eq_some_iff.1 hg
    refine ⟨hi, ?_⟩
    rw [e]
    simp at h
    exact h.symm
theorem last_pre {n : Nat} {pre : List (Fin n)} {x : Fin n} (h : pre ++ [x] = (List.finRange n).take (pre ++ [x]).length) : x.val = pre.length := by
  have h1 : (pre ++ [x])[pre.length]? = some x := by simp
  rw [h, List.getElem?_take] at h1
  rw [if_pos (by simp)] at h1
  have := List.getElem?_eq_some_iff.1 h1
  obtain ⟨hl, e⟩ := this
  rw [← e]; simp
set_option maxRecDepth 100000 in
set_option maxHeartbeats 12800000 in
theorem once_any (l : List Rg) (f bt : Nat → Nat) (B g B2 g2 : Nat) (most : Int) (w : World) (h : MemIs w B g l f) (h2 : RefIs w B2 g2 l bt) (hr : RelWB f bt) (hok : l.all Rg.ok = true) (hh : Has l f) :
    Calls Try.prog 23 #[.pointer (some ⟨g, 0, none⟩), .pointer (some ⟨g2, 0, none⟩), .int .i64 most] w fun e w' => e = .returned (.bool true) ∧ Below w.heap.size w w' := by
  have hf := h.bd
  have hb8 : ∀ j, bt j < 256 := by obtain ⟨_, _, _, _, _, _, _, _, _, _, _, _, _, _, hb⟩ := h2; exact hb
  have HV := Lib.hid (fun j (hj : j < 8192) (h0 : f j ≠ 0) => show refLoadV l bt (8 * j) = f j ∧ errW l (8 * j) = 0 by
    have he : errW l (8 * j) = 0 := by unfold errW; rw [if_pos (by omega)]; exact hh j hj h0
    refine ⟨?_, he⟩
    rw [refLoadV_eq hok hr hb8 hf]
    unfold loadV
    rw [if_pos he, show 8 * j / 8 = j by omega])
  have HM := Lib.hid h
  have HR := Lib.hid h2
  have HRel := Lib.hid hr
  have HOk := Lib.hid hok
  have HF := Lib.hid hf
  clear h h2 hr hok hh hf hb8
  refine (callsIn_wide (n := 4)).1 ?_
  refine callsIn_of_wp_marks Try.func23 rfl trivial ?_ rfl
  simp only [Try.ntmps23, List.size_toArray, List.length_cons, List.length_nil, Nat.reduceAdd, Nat.reduceSub, Array.replicate_succ, Array.replicate_zero, List.push_toArray, List.append_toArray, List.nil_append, List.cons_append]
  gi_wp2_with fail
  obtain ⟨W0, hW0⟩ : ∃ W0, ((((w.alloc (.cells #[.pointer (some ⟨g2, 0, none⟩)] 34 (0, 0))).alloc (.cells #[.int .i64 most] 3 (0, 0))).alloc (.cells #[.bool false] 4 (0, 0))).alloc (.cells #[.int .i64 0] 3 (0, 0))) = W0 := ⟨_, rfl⟩
  have c0 : W0.cell? ⟨w.heap.size, 0, none⟩ = some (.pointer (some ⟨g2, 0, none⟩)) := by rw [← hW0]; simp [go_sem]
  have c1 : W0.cell? ⟨w.heap.size + 1, 0, none⟩ = some (.int .i64 most) := by rw [← hW0]; simp [go_sem]
  have c2 : W0.cell? ⟨w.heap.size + 2, 0, none⟩ = some (.bool false) := by rw [← hW0]; simp [go_sem]
  have z2 : W0.frozen? ⟨w.heap.size + 2, 0, none⟩ = false := by rw [← hW0]; simp [go_sem]
  have c3 : W0.cell? ⟨w.heap.size + 3, 0, none⟩ = some (.int .i64 0) := by rw [← hW0]; simp [go_sem]
  have z3 : W0.frozen? ⟨w.heap.size + 3, 0, none⟩ = false := by rw [← hW0]; simp [go_sem]
  have hs0 : W0.heap.size = w.heap.size + 4 := by rw [← hW0]; simp
  have HB0 := Lib.hid (show Below w.heap.size w W0 by rw [← hW0]; exact ((((Below.refl _ w).alloc (Nat.le_refl _) _).alloc (by simp) _).alloc (by simp; omega) _).alloc (by simp; omega) _)
  have HS0 := Lib.hid hs0
  rw [hW0]
  clear hW0 hs0
  refine ⟨trivial, ?_⟩
  refine (callsIn_wide.2 (all_any l f B g W0 (HM.out.later HB0.out))).mono ?_
  rintro e w1 ⟨⟨ca, rfl, hF⟩, hB1⟩
  have q0 : ∀ (q : Addr) (w : World), (binOp .eql 61 (.func (.func 49) #[] #[.pointer (some q)]) .nilFunc).run Try.prog w = .ok (.bool false) w := fun _ _ => by kernel_rfl
  have d0 := (hB1.cell (p := ⟨w.heap.size, 0, none⟩) (by show w.heap.size < _; have := HS0.out; omega)).trans c0
  have D := Lib.hid (And.intro ((hB1.cell (p := ⟨w.heap.size + 1, 0, none⟩) (by show w.heap.size + 1 < _; have := HS0.out; omega)).trans c1) (And.intro ((hB1.cell (p := ⟨w.heap.size + 2, 0, none⟩) (by show w.heap.size + 2 < _; have := HS0.out; omega)).trans c2)
    (And.intro ((hB1.frozen (p := ⟨w.heap.size + 2, 0, none⟩) (by show w.heap.size + 2 < _; have := HS0.out; omega)).trans z2) (And.intro ((hB1.cell (p := ⟨w.heap.size + 3, 0, none⟩) (by show w.heap.size + 3 < _; have := HS0.out; omega)).trans c3)
      ((hB1.frozen (p := ⟨w.heap.size + 3, 0, none⟩) (by show w.heap.size + 3 < _; have := HS0.out; omega)).trans z3)))))
  have HFo := Lib.hid hF
  have hz1 := hB1.size
  have HB1 := Lib.hid (HB0.out.trans (hB1.mono HB0.out.size))
  have HD0 := Lib.hid d0
  clear hF hB1 c0 c1 c2 z2 c3 z3
  gi_wp2_with fail
  refine ⟨trivial, ?_⟩
  refine (callsIn_wide.2 (full_any l f bt B2 g2 w1 (HR.out.later HB1.out) HRel.out HF.out)).mono ?_
  rintro e w2 ⟨⟨v, rfl, hO⟩, hB2⟩
  obtain ⟨q, cp, rfl, _, _, hq1, hq2⟩ := own_cap hO
  have HQ := Lib.hid (And.intro hq1 hq2)
  have HB2 := Lib.hid hB2
  clear hO hq1 hq2 hB2 d0
  gi_wp2_with fail
  obtain ⟨w4, hw4⟩ : ∃ w4, w2.alloc (.cells #[.slice q (adrs f 8192).length cp] 54 (0, 0)) = w4 := ⟨_, rfl⟩
  have hz2 := HB2.out.size
  have hz4 : w4.heap.size = w2.heap.size + 1 := by rw [← hw4]; simp
  have hb24 : Below w2.heap.size w2 w4 := by rw [← hw4]; exact (Below.refl _ _).alloc (Nat.le_refl _) _
  have hb14 : Below w1.heap.size w1 w4 := HB2.out.trans (hb24.mono hz2)
  have hsz := HS0.out
  have e9 : w4.cell? ⟨w2.heap.size, 0, none⟩ = some (.slice q (nz f 8192).length cp) := by rw [← hw4, ← adrs_len]; simp [go_sem]
  have E0 := Lib.hid ((hb14.cell (p := ⟨w.heap.size, 0, none⟩) (by show w.heap.size < _; omega)).trans HD0.out)
  have E1 := Lib.hid ((hb14.cell (p := ⟨w.heap.size + 1, 0, none⟩) (by show w.heap.size + 1 < _; omega)).trans D.out.1)
  have E9 := Lib.hid e9
  have hM : w.heap.size + 3 < w4.heap.size := by omega
  have HRow : Hid (∀ i (hi : i < (nz f 8192).length), ∃ gb, q = some ⟨gb, 0, none⟩ ∧ gb < w4.heap.size ∧ w.heap.size + 3 < gb ∧ w4.cell? ⟨gb, i, none⟩ = some (.int .u64 (8 * ((nz f 8192)[i] : Int)))) := Lib.hid fun i hi => by
    rcases q with _ | ad
    · have := (HQ.out.1 rfl).1
      rw [adrs_len] at this
      omega
    · obtain ⟨gb, rfl, k1, k2, _, k4⟩ := HQ.out.2 ad rfl
      exact ⟨gb, rfl, by omega, by omega, (hb24.cell (p := ⟨gb, i, none⟩) k2).trans (k4 i _ (u64s_adrs hi))⟩
  have HI0 : Hid (OInv w w4 0 w4) := Lib.hid ⟨HB1.out.trans (hb14.mono HB1.out.size), fun _ _ _ _ => rfl, (hb14.cell (p := ⟨w.heap.size + 2, 0, none⟩) (by show w.heap.size + 2 < _; omega)).trans D.out.2.1, (hb14.frozen (p := ⟨w.heap.size + 2, 0, none⟩) (by show w.heap.size + 2 < _; omega)).trans D.out.2.2.1,
    (hb14.cell (p := ⟨w.heap.size + 3, 0, none⟩) (by show w.heap.size + 3 < _; omega)).trans D.out.2.2.2.1, (hb14.frozen (p := ⟨w.heap.size + 3, 0, none⟩) (by show w.heap.size + 3 < _; omega)).trans D.out.2.2.2.2, Nat.le_refl _⟩
  have HF4 := Lib.hid (HFo.out.later hb14)
  have hnl := nz_len f 8192
  have hb9 : w.heap.size + 3 < w2.heap.size := by omega
  rw [hw4]
  clear hw4 hb24 hb14 e9 HD0 D HFo HB1 HB2 HQ
  refine wpIn_rangeFunc_ownF (α := Fin (nz f 8192).length) rfl (by omega) (gf := 49) (lb := #[.pointer (some ⟨ca, 0, none⟩)]) rfl trivial (enters_of Try.func49 (by kernel_rfl) rfl)
    (all1_pre Fence.wide _ trivial rfl (by omega) W0.heap.size ca f (nz f 8192) w4 HF4.out hnl) (fun h k => h.trans k) (Band.b (Nat.le_refl _)) (Below.refl _ _) (fun _ => rfl)
    (fun pre W => OInv w w4 pre.length W) (OStop w w4 _) (OInv.own hM) (fun c => OStop.own c hM) HI0.out ?_ ?_ ?_ ?_ ?_
  rotate_left
  · intro lr x W K hK
    unfold encF
    gi_wp2
    exact hK
  · intro lr pre x W hI hlen
    have HN := Lib.hid hI
    obtain ⟨gb, rfl, hgb1, hgb2, hgc⟩ := HRow.out _ hlen
    have g0 := (hI.cell (o := 0) (b := w.heap.size) (by omega) (by omega) (by omega)).trans E0.out
    have g1 := (hI.cell (o := 0) (b := w.heap.size + 1) (by omega) (by omega) (by omega)).trans E1.out
    have g9 := (hI.cell (o := 0) (b := w2.heap.size) (by omega) (by omega) (by omega)).trans E9.out
    have gr := (hI.cell (o := pre.length) hgb1 (by omega) (by omega)).trans hgc
    have gn := hI.n
    have gnf := hI.nf
    have gs := hI.res
    have gsf := hI.resf
    have HXB := Lib.hid (nz_get f 8192 x)
    obtain ⟨b, hb⟩ : ∃ b, (nz f 8192)[pre.length] = b := ⟨_, rfl⟩
    rw [hb] at gr
    have HXP : Hid (pre ++ [x] = (List.finRange (nz f 8192).length).take (pre ++ [x]).length → (nz f 8192)[(x : Nat)] = b) := Lib.hid fun e => by
      have := last_pre e
      subst hb
      congr 1
    have i0 : (0 : Int) ≤ (pre.length : Int) := by omega
    have i1 : (pre.length : Int) < ((nz f 8192).length : Int) := by omega
    simp only [Fin.getElem_fin] at HXB
    clear hgc hI HI0 HF4 HRow E9
    generalize (nz f 8192)[(x : Nat)] = a at HXB HXP ⊢
    by_cases hab : a = b
    · subst hab
      have HLd := Lib.hid (fun (W : World) (hr : RefIs W B2 g2 l bt) => refLoad_any l bt B2 g2 (8 * a) W hr HOk.out (by have := HXB.out.1; omega))
      rw [(HV.out a HXB.out.1 HXB.out.2).1] at HLd
      simp only [Int.natCast_mul, Int.cast_ofNat_Int] at HLd
      have hl1 : pre.length < 8192 := Nat.lt_of_lt_of_le hlen hnl
      gi_wp2_with fail
      refine ⟨trivial, ?_⟩
      refine (CallsIn.inRound lr (callsIn_wide.2 (HLd.out W (HR.out.later HN.out.bel)))).mono ?_
      rintro e W1 ⟨rfl, hB⟩
      have HN1 := Lib.hid (HN.out.below (hB.mono HN.out.sz) hM)
      have HKO := Lib.hid (keeps_below hB)
      have HBd := Lib.hid (show Band W0.heap.size w4.heap.size W W1 from Band.of hB HN.out.sz)
      have gm1 := (HN1.out.cell (o := 0) (b := w.heap.size + 1) (by omega) (by omega) (by omega)).trans E1.out
      have gn1 := HN1.out.n
      have gnf1 := HN1.out.nf
      have gs1 := HN1.out.res
      have gsf1 := HN1.out.resf
      have HB' := Lib.hid (show ∀ z : Int, Band W0.heap.size w4.heap.size W1 (W1.setCell ⟨w.heap.size + 3, 0, none⟩ (.int .i64 z)) from fun z => ⟨by simp [World.setCell], fun k k1 k2 => Below.heap_setCell _ _ _ _ (by show k ≠ w.heap.size + 3; omega)⟩)
      clear hB g0 g1 g9 gr gn gnf gs gsf HLd
      by_cases hm : ((pre.length : Int) + 1) = most
      · have hmb : (((pre.length : Int) + 1) == most) = true := by simpa using hm
        have HN2 := Lib.hid (HN1.out.next most (by omega))
        have hBs := HN2.out.bel.setCell (p := ⟨w.heap.size + 2, 0, none⟩) (by show w.heap.size ≤ w.heap.size + 2; omega) (.bool true)
        have HBs := Lib.hid hBs
        clear hBs
        gi_wp2_with fail
        exact ⟨(HKO.out.trans (KeepsOthers.setCell _ _ _)).trans (KeepsOthers.setCell _ _ _), rfl, HBs.out, by simpa [World.setCell] using HN1.out.sz, fun _ => World.cell?_setCell_same _ _ _ HN2.out.res⟩
      · have hmb : (((pre.length : Int) + 1) == most) = false := by simpa using hm
        have HN2 := Lib.hid (HN1.out.next ((pre.length : Int) + 1) (by omega))
        gi_wp2_with fail
        exact ⟨HKO.out.trans (KeepsOthers.setCell _ _ _), HBd.out.trans (HB'.out _), by show OInv w w4 (pre ++ [x]).length _; rw [List.length_append]; exact HN2.out⟩
    · have hab1 : ((8 * (a : Int)) != 8 * (b : Int)) = true := by simp; omega
      have hBs := HN.out.bel.setCell (p := ⟨w.heap.size + 2, 0, none⟩) (by show w.heap.size ≤ w.heap.size + 2; omega) (.bool false)
      have HBs := Lib.hid hBs
      have HSz := Lib.hid HN.out.sz
      clear hBs
      gi_wp2_with fail
      exact ⟨KeepsOthers.setCell _ _ _, rfl, HBs.out, by simpa [World.setCell] using HSz.out, fun e => absurd (HXP.out e) hab⟩
  · rintro D xs W hD rfl hI hK
    rw [List.length_finRange] at hI
    have g9 := (hI.cell (o := 0) (b := w2.heap.size) (by omega) (by omega) (by omega)).trans E9.out
    have gn := hI.n
    have gs := hI.res
    have gsf := hI.resf
    have HB := Lib.hid hI.bel
    have HKD := Lib.hid hK
    clear hI hK HI0 HF4 HRow
    gi_wp2_with fail
    have hK' : (W.setCell ⟨w.heap.size + 2, 0, none⟩ (.bool true)).heap[D]? = some (.deferred (some [])) := (Below.heap_setCell W _ _ D (by show D ≠ w.heap.size + 2; omega)).trans HKD.out
    have hc' : (W.setCell ⟨w.heap.size + 2, 0, none⟩ (.bool true)).cell? ⟨w.heap.size + 2, 0, none⟩ = some (.bool true) := World.cell?_setCell_same _ _ _ gs
    have hc2 := cell_kept hc' (grownBy_putObj' _ D (.deferred none)) (fun r e => by cases e; exact ⟨_, hK', rfl⟩)
    have hBs := HB.out.setCell (p := ⟨w.heap.size + 2, 0, none⟩) (by show w.heap.size ≤ w.heap.size + 2; omega) (.bool true)
    refine ⟨by simp, .inl ⟨_, _, rfl, run_takeDeferred hK', ?_⟩⟩
    refine ⟨.bool true, ?_, rfl, hBs.trans (belowK_b (w := w) (Nat.le_refl _) _ D _ _ (by omega) hK' rfl rfl)⟩
    simp [results, Try.results23, go_sem, hc2]
  · rintro D c pre W hD hpre ⟨rfl, hB, hsz', hres⟩ hK
    have hc' := hres hpre
    have HB := Lib.hid hB
    have HKD := Lib.hid hK
    have hc2 := cell_kept hc' (grownBy_putObj' _ D (.deferred none)) (fun r e => by cases e; exact ⟨_, HKD.out, rfl⟩)
    have HC2 := Lib.hid hc2
    clear hB hK HI0 HF4 HRow hres hpre hc2
    gi_wp2_with fail
    have hc2 := HC2.out
    refine ⟨by simp, .inl ⟨_, _, rfl, run_takeDeferred HKD.out, ?_⟩⟩
    refine ⟨.bool true, ?_, rfl, HB.out.trans (belowK_b (w := w) (Nat.le_refl _) _ D _ _ (by omega) HKD.out rfl rfl)⟩
    simp [results, Try.results23, go_sem, hc2]
end Go.Proofs.Ytajjpaabkdgjbaa
