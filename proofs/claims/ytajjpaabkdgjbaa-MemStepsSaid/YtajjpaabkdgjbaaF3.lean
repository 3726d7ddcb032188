/- The law MemAgain, walked. -/
import Derived.Test.YtajjpaabkdgjbaaE6
import Derived.Test.YtajjpaabkdgjbaaE7
import Derived.Test.YtajjpaabkdgjbaaF2
namespace Go.Proofs.Ytajjpaabkdgjbaa
open Go.RowKit Go.Shelf
attribute [local go_sem] Oper.semAt_some

/-- the result's cell is as it was laid -/
structure Res (w W : World) : Prop where
  bel : Below w.heap.size w W
  cel : W.cell? ⟨w.heap.size, 0, none⟩ = some (.bool false)
  fro : W.frozen? ⟨w.heap.size, 0, none⟩ = false
  lt : w.heap.size < W.heap.size
theorem Res.later {w W W' : World} (h : Res w W) (hB : Below W.heap.size W W') : Res w W' :=
  ⟨h.bel.trans (hB.mono h.bel.size), (hB.cell (p := ⟨w.heap.size, 0, none⟩) h.lt).trans h.cel, (hB.frozen (p := ⟨w.heap.size, 0, none⟩) h.lt).trans h.fro, Nat.lt_of_lt_of_le h.lt hB.size⟩
theorem Res.start (w : World) (t : TypeId) : Res w (w.alloc (.cells #[.bool false] t (0, 0))) :=
  ⟨(Below.refl _ _).alloc (Nat.le_refl _) _, by simp [go_sem], by simp [go_sem], by simp⟩
theorem Res.agr {w W W' : World} {g : Nat} (h : Res w W) (hA : Agr g W W') (hg : w.heap.size < g) : Res w W' :=
  ⟨Agr.below h.bel hA (Nat.le_of_lt hg) h.bel.size, by unfold World.cell?; rw [hA.block w.heap.size h.lt (by omega)]; exact h.cel, by unfold World.frozen?; rw [hA.block w.heap.size h.lt (by omega)]; exact h.fro, Nat.lt_of_lt_of_le h.lt hA.size⟩
theorem Res.below {w W W' : World} {M : Nat} (h : Res w W) (hB : Below M W W') (hM : w.heap.size < M) : Res w W' :=
  ⟨h.bel.trans (hB.mono (Nat.le_of_lt hM)), (hB.cell (p := ⟨w.heap.size, 0, none⟩) hM).trans h.cel, (hB.frozen (p := ⟨w.heap.size, 0, none⟩) hM).trans h.fro, Nat.lt_of_lt_of_le h.lt hB.size⟩
/-- what holds between two rounds: the one memory is as it was, the other has the words that came -/
structure Inv (w : World) (B1 g1 B2 g2 bn : Nat) (l : List Rg) (f : Nat → Nat) (js : List Nat) (M : Nat) (pre : List (Fin js.length)) (W : World) : Prop where
  res : Res w W
  m1 : MemIs W B1 g1 l f
  m2 : ∃ h, MemIs W B2 g2 l h ∧ (∀ i ∈ pre, h js[i] = f js[i]) ∧ ∀ j, j < 8192 → h j = f j ∨ h j = 0
  n : W.cell? ⟨bn, 0, none⟩ = some (.pointer (some ⟨g2, 0, none⟩))
  sz : M ≤ W.heap.size
theorem Inv.below {w : World} {B1 g1 B2 g2 bn : Nat} {l : List Rg} {f : Nat → Nat} {js : List Nat} {M : Nat} {pre : List (Fin js.length)} {W W' : World} (h : Inv w B1 g1 B2 g2 bn l f js M pre W) (hB : Below M W W') (h0 : w.heap.size < M) (h1 : g1 < M) (h2 : g2 < M) (h3 : bn < M) : Inv w B1 g1 B2 g2 bn l f js M pre W' := by
  refine ⟨h.res.below hB h0, h.m1.far (fun k _ hk => hB.block k (by omega)) (Nat.lt_of_lt_of_le h.m1.gt.2 hB.size), ?_, (hB.cell (p := ⟨bn, 0, none⟩) h3).trans h.n, Nat.le_trans h.sz hB.size⟩
  obtain ⟨x, hx, hp⟩ := h.m2
  exact ⟨x, hx.far (fun k _ hk => hB.block k (by omega)) (Nat.lt_of_lt_of_le hx.gt.2 hB.size), hp⟩
theorem Inv.own {w : World} {B1 g1 B2 g2 bn : Nat} {l : List Rg} {f : Nat → Nat} {js : List Nat} {M : Nat} (h0 : w.heap.size < M) (h1 : g1 < M) (h2 : g2 < M) (h3 : bn < M) : OwnFrom M (Inv w B1 g1 B2 g2 bn l f js M) := fun s A B row hs hg hr =>
  hs.below ((Below.refl M A).grown hg hs.sz (fun k e => (hr k e).1)) h0 h1 h2 h3
theorem keeps_agr {W W' : World} {B g : Nat} {l : List Rg} {f : Nat → Nat} (h : MemIs W B g l f) (hA : Agr g W W') : KeepsOthers W W' := by
  obtain ⟨p, c, q, h1, _⟩ := h
  refine ⟨hA.size, fun k o hk ho => ?_⟩
  by_cases hc : k = g
  · subst hc
    exfalso
    unfold World.cell? at h1
    rw [hk] at h1
    cases o <;> simp_all [Obj.isCells]
  · exact (hA.block k (Array.getElem?_eq_some_iff.1 hk).1 hc).trans hk
theorem memB_of {l : List Rg} {f h : Nat → Nat} (e : ∀ j, j < 8192 → f j = h j) : memB l l f h = true := by
  unfold memB wordsEq
  rw [← eqB_true rfl, @decide_eq_true (EqW f h) (Classical.propDecidable _) e]
  rfl
theorem nz_mem {f : Nat → Nat} {j k : Nat} (hj : j < k) (h : f j ≠ 0) : ∃ i : Fin (nz f k).length, (nz f k)[i] = j := by
  have : j ∈ nz f k := List.mem_filter.2 ⟨List.mem_range.2 hj, by simpa using h⟩
  obtain ⟨i, hi, e⟩ := List.mem_iff_getElem.1 this
  exact ⟨⟨i, hi⟩, e⟩
theorem nz_get (f : Nat → Nat) (k : Nat) (i : Fin (nz f k).length) : (nz f k)[i] < k ∧ f (nz f k)[i] ≠ 0 := by
  have h : (nz f k)[i] ∈ nz f k := List.getElem_mem _
  generalize (nz f k)[i] = j at h ⊢
  have h2 := List.mem_filter.1 h
  exact ⟨List.mem_range.1 h2.1, by simpa using h2.2⟩
theorem Inv.put {w : World} {B1 g1 B2 g2 bn : Nat} {l : List Rg} {f h : Nat → Nat} {js : List Nat} {M : Nat} {pre : List (Fin js.length)} {x : Fin js.length} {W W' : World} (hI : Inv w B1 g1 B2 g2 bn l f js M pre W) (hA : Agr g2 W W')
    (hp : (∀ i ∈ pre, h js[i] = f js[i]) ∧ ∀ j, j < 8192 → h j = f j ∨ h j = 0) (hm : MemIs W' B2 g2 l (upd h js[x] (f js[x]))) (h1 : g1 < g2) (h0 : w.heap.size < g2) (h3 : g2 < bn) (h4 : bn < M) : Inv w B1 g1 B2 g2 bn l f js M (pre ++ [x]) W' := by
  refine ⟨hI.res.agr hA h0, hI.m1.agr hA (.inr h1), ⟨_, hm, fun i hi => ?_, fun j hj => ?_⟩, ?_, Nat.le_trans hI.sz hA.size⟩
  · unfold upd
    split
    · rename_i e; rw [e]
    · rename_i e
      rcases List.mem_append.1 hi with hi | hi
      · exact hp.1 i hi
      · simp at hi; subst hi; exact absurd rfl e
  · unfold upd
    split
    · rename_i e; rw [e]; exact .inl rfl
    · exact hp.2 j hj
  · unfold World.cell?; rw [hA.block bn (Nat.lt_of_lt_of_le h4 hI.sz) (by show bn ≠ g2; omega)]; exact hI.n
set_option maxRecDepth 100000 in
set_option maxHeartbeats 12800000 in
theorem again_law (l : List Rg) (xs : List (List Nat)) (ss : List Stp) (p p2 p3 : Option Addr) (c c2 c3 : Nat) (w : World)
    (hl : RgIn w w.heap.size l p) (hx : WsIn w w.heap.size xs p2) (hs : StpIn w w.heap.size ss p3)
    (hc : l.length ≤ c) (hcm : c ≤ 9223372036854775807) (hp : p = none → c = 0) :
    Calls Try.prog 5 #[.slice p l.length c, .slice p2 xs.length c2, .slice p3 ss.length c3] w fun e w' => e = .returned (.bool true) ∧ Below w.heap.size w w' := by
  have HK : Hid (∀ w', Res w w' → Calls Try.prog 7 #[] w' fun e w'' => e = .returned (.bool true) ∧ Res w w'') := Lib.hid fun w' hB => (known_any w').mono fun e w'' h => ⟨h.1, hB.later h.2⟩
  have HLl : Hid (∀ w', Res w w' → Calls Try.prog 6 #[.slice p l.length c] w' fun e w'' => e = .returned (.bool (longB l)) ∧ Res w w'') := Lib.hid fun w' hB => (long_any l p c _ w' (hl.later hB.bel (Nat.le_refl _))).mono fun e w'' h => ⟨h.1, h.2 ▸ hB⟩
  have HMl : Hid (∀ w', Res w w' → Calls Try.prog 8 #[.slice p l.length c] w' fun e w'' => e = .returned (.bool (mayB l)) ∧ Res w w'') := Lib.hid fun w' hB => (refMay_any l p c _ w' (hl.later hB.bel (Nat.le_refl _)) hB.bel.size).mono fun e w'' h => ⟨h.1, hB.later h.2⟩
  have HFl : Hid (∀ w', Res w w' → Calls Try.prog 9 #[.slice p l.length c, .slice p2 xs.length c2] w' fun e w'' => e = .returned (.bool (fitsB l xs)) ∧ Res w w'') := Lib.hid fun w' hB => (refFits_any l xs p p2 c c2 _ w' (hl.later hB.bel (Nat.le_refl _)) (hx.later hB.bel (Nat.le_refl _)) hB.bel.size).mono fun e w'' h => ⟨h.1, hB.later h.2⟩
  have HPl : Hid (mayB l = true → fitsB l xs = true → ∀ w', Res w w' → Calls Try.prog 12 #[.slice p l.length c, .slice p2 xs.length c2, .slice p3 ss.length c3] w' (PlayHas l w')) := Lib.hid fun hm hf w' hB => play_has l xs ss p p2 p3 c c2 c3 _ w' (hl.later hB.bel (Nat.le_refl _)) (hx.later hB.bel (Nat.le_refl _)) (hs.later hB.bel (Nat.le_refl _)) hB.bel.size hc hcm hp hm hf
  have HNl : Hid (mayB l = true → ∀ w', Res w w' → Calls Try.prog 26 #[.slice p l.length c] w' fun e w'' => (∃ g, e = .returned (.tuple #[.pointer (some ⟨g, 0, none⟩), .int .i64 0]) ∧ MemIs w'' w'.heap.size g l (fun _ => 0)) ∧ Below w'.heap.size w' w'') := Lib.hid fun hm w' hB => (new_any l p c _ w' (hl.later hB.bel (Nat.le_refl _)) hB.bel.size hc hcm hp).mono fun e w'' h => ⟨h.1.2 hm, h.2⟩
  have HOk : Hid (mayB l = true → l.all Rg.ok = true) := Lib.hid fun hm => by simp only [mayB, Bool.and_eq_true] at hm; exact hm.2.1
  have hm1 := hs.1
  have HB : Hid (Res w (w.alloc (.cells #[.bool false] 4 (0, 0)))) := Lib.hid (Res.start w _)
  generalize longB l = b1 at HLl
  generalize mayB l = b3 at HMl HPl HNl HOk
  generalize fitsB l xs = b5 at HFl HPl
  clear hl hx hs hc hcm hp
  refine (callsIn_wide (n := 4)).1 ?_
  refine callsIn_of_wp_marks Try.func5 rfl trivial ?_ rfl
  simp only [Try.ntmps5, List.size_toArray, List.length_cons, List.length_nil, Nat.reduceAdd, Nat.reduceSub, Array.replicate_succ, Array.replicate_zero, List.push_toArray, List.append_toArray, List.nil_append, List.cons_append]
  gi_wp2_with fail
  refine ⟨trivial, ?_⟩
  refine (callsIn_wide.2 (HLl.out _ ?_)).mono ?_
  · first | exact HB.out | exact HB.out.later (Below.refl _ _).drew
  rintro e wa ⟨rfl, hB⟩
  replace HB := Lib.hid hB
  clear hB HLl
  cases b1 with
  | true =>
    clear HNl HOk
    gi_wp2_with fail
    refine ⟨trivial, ?_⟩
    gi_wp2_with fail
    refine ⟨trivial, ?_⟩
    gi_wp2_with fail
    refine ⟨trivial, ?_⟩
    refine (callsIn_wide.2 (HK.out _ ?_)).mono ?_
    · first | exact HB.out | exact HB.out.later (Below.refl _ _).drew
    rintro e wa ⟨rfl, hB⟩
    replace HB := Lib.hid hB
    clear hB 
    have hcel := HB.out.cel
    have hfro := HB.out.fro
    gi_wp2_with fail
    have hc' : (wa.setCell ⟨w.heap.size, 0, none⟩ (.bool true)).cell? ⟨w.heap.size, 0, none⟩ = some (.bool true) := World.cell?_setCell_same _ _ _ hcel
    have hBB := HB.out.bel.setCell (p := ⟨w.heap.size, 0, none⟩) (Nat.le_refl _) (.bool true)
    refine ⟨.bool true, ?_, rfl, hBB⟩
    simp [results, Try.results5, go_sem, hc']
  | false =>
    gi_wp2_with fail
    refine ⟨trivial, ?_⟩
    refine (callsIn_wide.2 (HMl.out _ ?_)).mono ?_
    · first | exact HB.out | exact HB.out.later (Below.refl _ _).drew
    rintro e wa ⟨rfl, hB⟩
    replace HB := Lib.hid hB
    clear hB HMl
    cases b3 with
    | false =>
      clear HNl HOk
      gi_wp2_with fail
      refine ⟨trivial, ?_⟩
      gi_wp2_with fail
      refine ⟨trivial, ?_⟩
      refine (callsIn_wide.2 (HK.out _ ?_)).mono ?_
      · first | exact HB.out | exact HB.out.later (Below.refl _ _).drew
      rintro e wa ⟨rfl, hB⟩
      replace HB := Lib.hid hB
      clear hB 
      have hcel := HB.out.cel
      have hfro := HB.out.fro
      gi_wp2_with fail
      have hc' : (wa.setCell ⟨w.heap.size, 0, none⟩ (.bool true)).cell? ⟨w.heap.size, 0, none⟩ = some (.bool true) := World.cell?_setCell_same _ _ _ hcel
      have hBB := HB.out.bel.setCell (p := ⟨w.heap.size, 0, none⟩) (Nat.le_refl _) (.bool true)
      refine ⟨.bool true, ?_, rfl, hBB⟩
      simp [results, Try.results5, go_sem, hc']
    | true =>
      gi_wp2_with fail
      refine ⟨trivial, ?_⟩
      refine (callsIn_wide.2 (HFl.out _ ?_)).mono ?_
      · first | exact HB.out | exact HB.out.later (Below.refl _ _).drew
      rintro e wa ⟨rfl, hB⟩
      replace HB := Lib.hid hB
      clear hB HFl
      cases b5 with
      | false =>
        clear HNl HOk
        gi_wp2_with fail
        refine ⟨trivial, ?_⟩
        refine (callsIn_wide.2 (HK.out _ ?_)).mono ?_
        · first | exact HB.out | exact HB.out.later (Below.refl _ _).drew
        rintro e wa ⟨rfl, hB⟩
        replace HB := Lib.hid hB
        clear hB 
        have hcel := HB.out.cel
        have hfro := HB.out.fro
        gi_wp2_with fail
        have hc' : (wa.setCell ⟨w.heap.size, 0, none⟩ (.bool true)).cell? ⟨w.heap.size, 0, none⟩ = some (.bool true) := World.cell?_setCell_same _ _ _ hcel
        have hBB := HB.out.bel.setCell (p := ⟨w.heap.size, 0, none⟩) (Nat.le_refl _) (.bool true)
        refine ⟨.bool true, ?_, rfl, hBB⟩
        simp [results, Try.results5, go_sem, hc']
      | true =>
        by_cases hss : 60 < ss.length
        · skip
          clear HNl HOk
          gi_wp2_with fail
          refine ⟨trivial, ?_⟩
          refine (callsIn_wide.2 (HK.out _ ?_)).mono ?_
          · first | exact HB.out | exact HB.out.later (Below.refl _ _).drew
          rintro e wa ⟨rfl, hB⟩
          replace HB := Lib.hid hB
          clear hB 
          have hcel := HB.out.cel
          have hfro := HB.out.fro
          gi_wp2_with fail
          have hc' : (wa.setCell ⟨w.heap.size, 0, none⟩ (.bool true)).cell? ⟨w.heap.size, 0, none⟩ = some (.bool true) := World.cell?_setCell_same _ _ _ hcel
          have hBB := HB.out.bel.setCell (p := ⟨w.heap.size, 0, none⟩) (Nat.le_refl _) (.bool true)
          refine ⟨.bool true, ?_, rfl, hBB⟩
          simp [results, Try.results5, go_sem, hc']
        · skip
          gi_wp2_with fail
          refine ⟨trivial, ?_⟩
          refine (callsIn_wide.2 (HPl.out (by trivial) (by trivial) _ ?_)).mono ?_
          · first | exact HB.out | exact HB.out.later (Below.refl _ _).drew
          rintro e w1 ⟨B1, g1, C1, r1, f, bt, rfl, hI, _, _, _, hB1, _, hB, hH⟩
          have hwB1 : w.heap.size < B1 := by have := HB.out.lt; have := hB1; (try simp at this); omega
          replace HB := Lib.hid (HB.out.later (by first | exact hB | exact (Below.refl _ _).drew.trans (hB.mono (by simp))))
          have HI1 := Lib.hid hI
          have HH := Lib.hid hH
          clear hI hB hH hB1 HPl
          gi_wp2_with fail
          refine ⟨trivial, ?_⟩
          refine (callsIn_wide.2 (HNl.out (by trivial) _ ?_)).mono ?_
          · first | exact HB.out | exact HB.out.later (Below.refl _ _).drew
          rintro e w2 ⟨⟨g2, rfl, hI⟩, hB⟩
          obtain ⟨B2, hB2⟩ : ∃ B2, B2 = w1.heap.size := ⟨_, rfl⟩
          rw [← hB2] at hI
          have hg1 : g1 < B2 := by rw [hB2]; exact HI1.out.gt.2
          replace HI1 := Lib.hid (HI1.out.later hB)
          have HI2 := Lib.hid hI
          replace HB := Lib.hid (HB.out.later hB)
          clear hI hB HNl hB2
          gi_wp2_with fail
          refine ⟨trivial, ?_⟩
          refine (callsIn_wide.2 (num_any 0 _)).mono ?_
          rintro e w' ⟨rfl, rfl⟩
          obtain ⟨W3, hW3⟩ : ∃ W3, w2.alloc (.cells #[.pointer (some ⟨g2, 0, none⟩)] 29 (0, 0)) = W3 := ⟨_, rfl⟩
          have c10 : W3.cell? ⟨w2.heap.size, 0, none⟩ = some (.pointer (some ⟨g2, 0, none⟩)) := by rw [← hW3]; simp [go_sem]
          have hb3 : Below w2.heap.size w2 W3 := by rw [← hW3]; exact (Below.refl _ _).alloc (Nat.le_refl _) _
          have hz3 : W3.heap.size = w2.heap.size + 1 := by rw [← hW3]; simp
          replace HB := Lib.hid (HB.out.later hb3)
          have hg2 := HI2.out.gt
          replace HI1 := Lib.hid (HI1.out.later hb3)
          replace HI2 := Lib.hid (HI2.out.later hb3)
          rw [hW3]
          clear hW3 hb3
          gi_wp2_with fail
          refine ⟨trivial, ?_⟩
          refine (callsIn_wide.2 (all_any l f B1 g1 W3 HI1.out)).mono ?_
          rintro e w4 ⟨⟨ca, rfl, hF⟩, hB⟩
          have q0 : ∀ (q : Addr) (w : World), (binOp .eql 61 (.func (.func 49) #[] #[.pointer (some q)]) .nilFunc).run Try.prog w = .ok (.bool false) w := fun _ _ => by kernel_rfl
          replace HB := Lib.hid (HB.out.later hB)
          replace HI1 := Lib.hid (HI1.out.later hB)
          replace HI2 := Lib.hid (HI2.out.later hB)
          have d10 := (hB.cell (p := ⟨w2.heap.size, 0, none⟩) (by show w2.heap.size < _; omega)).trans c10
          have hz4 := hB.size
          have HFo := Lib.hid hF
          have hok := Lib.hid (HOk.out (by trivial))
          clear hB hF c10 HOk
          gi_wp2_with fail
          have HI := Lib.hid (show Inv w B1 g1 B2 g2 w2.heap.size l f (nz f 8192) w4.heap.size [] w4 from ⟨HB.out, HI1.out, ⟨_, HI2.out, ⟨fun i hi => absurd hi (by simp), fun j _ => Or.inr rfl⟩⟩, d10, Nat.le_refl _⟩)
          have hBg := HI1.out.gt.1
          have h0w : w.heap.size < g2 := by omega
          have h12 : g1 < g2 := by omega
          have h2n : g2 < w2.heap.size := hg2.2
          have hn4 : w2.heap.size < w4.heap.size := by omega
          have hnl := nz_len f 8192
          clear HI1 HI2 d10 HB
          refine wpIn_rangeFunc_ownF (α := Fin (nz f 8192).length) rfl (by omega) (gf := 49) (lb := #[.pointer (some ⟨ca, 0, none⟩)]) rfl trivial (enters_of Try.func49 (by kernel_rfl) rfl)
            (all1_any Fence.wide _ trivial rfl (by omega) W3.heap.size ca f (nz f 8192) w4 HFo.out hnl) (fun h k => h.trans k) (Band.b (Nat.le_refl _)) (Below.refl _ _) (fun _ => rfl)
            (Inv w B1 g1 B2 g2 w2.heap.size l f (nz f 8192) w4.heap.size) (fun _ _ _ => False) (Inv.own (by omega) (by omega) (by omega) (by omega)) (fun _ _ _ _ _ hs _ _ => hs) HI.out ?_ ?_ ?_ ?_ ?_
          rotate_left
          · intro lr x W K hK
            unfold encF
            gi_wp2
            exact hK
          · intro lr pre x W hI hlen
            have HN := Lib.hid hI
            have hcn := hI.n
            obtain ⟨h, hm, hp⟩ := hI.m2
            have HP := Lib.hid hp
            obtain ⟨hx1, hx2⟩ := nz_get f 8192 x
            have HM := Lib.hid hm
            have HE := Lib.hid (HH.out _ hx1 hx2)
            have hu := HN.out.m1.bd (nz f 8192)[x]
            have HS := Lib.hid (store_yes l h B2 g2 (8 * (nz f 8192)[x]) (f (nz f 8192)[x]) W HM.out hok.out (by omega) (by unfold errW; rw [if_pos (by omega)]; exact HE.out) hu)
            have e8 : 8 * (nz f 8192)[x] / 8 = (nz f 8192)[x] := by omega
            rw [e8] at HS
            have HQ := Lib.hid (fun (W1 : World) (hm1 : MemIs W1 B2 g2 l (upd h (nz f 8192)[x] (f (nz f 8192)[x]))) (hA : Agr g2 W W1) => HN.out.put hA HP.out hm1 h12 h0w h2n hn4)
            clear hI hm hp hx2 hx1 HE hu e8
            simp only [Int.natCast_mul, Int.cast_ofNat_Int, Fin.getElem_fin] at HS HQ
            gi_wp2_with fail
            refine ⟨trivial, ?_⟩
            refine (CallsIn.inRound lr (callsIn_wide.2 HS.out)).mono ?_
            rintro e W1 ⟨rfl, hm1, hA⟩
            have HI' := Lib.hid (HQ.out W1 hm1 hA)
            have HKO := Lib.hid (keeps_agr HM.out hA)
            have HBd := Lib.hid (show Band W3.heap.size w4.heap.size W W1 from ⟨hA.size, fun k k1 k2 => hA.block k (Nat.lt_of_lt_of_le k2 HN.out.sz) (by omega)⟩)
            clear hm1 hA HS HQ HP HM hcn
            gi_wp2_with fail
            refine ⟨trivial, ?_⟩
            refine (CallsIn.inRound lr (callsIn_wide.2 (num_any 0 _))).mono ?_
            rintro e w' ⟨rfl, rfl⟩
            gi_wp2_with fail
            exact ⟨HKO.out, HBd.out, HI'.out⟩
          · rintro D ys W hD rfl hI hK
            have hcn := hI.n
            obtain ⟨h, hm, hp1, hp2⟩ := hI.m2
            have hfh : ∀ j, j < 8192 → f j = h j := fun j hj => by
              by_cases h0 : f j = 0
              · rcases hp2 j hj with e | e
                · exact e.symm
                · rw [h0, e]
              · obtain ⟨i, hi⟩ := nz_mem hj h0
                have := hp1 i (List.mem_finRange i)
                rw [hi] at this
                exact this.symm
            have HS := Lib.hid (by have := memSame_any l l f h B1 g1 B2 g2 W hI.m1 hm; rw [memB_of hfh] at this; exact this)
            have HB := Lib.hid hI.res
            have HKD := Lib.hid hK
            have hwD : w.heap.size < D := by omega
            clear hI hm hp1 hp2 hfh hK HI
            gi_wp2_with fail
            refine ⟨trivial, ?_⟩
            refine (callsIn_wide.2 HS.out).mono ?_
            rintro e Wa ⟨rfl, hB⟩
            replace HB := Lib.hid (HB.out.later hB)
            replace HKD := Lib.hid ((hB.block D (Array.getElem?_eq_some_iff.1 HKD.out).1).trans HKD.out)
            clear hB HS hcn
            gi_wp2_with fail
            refine ⟨trivial, ?_⟩
            refine (callsIn_wide.2 (known_any _)).mono ?_
            rintro e Wb ⟨rfl, hB⟩
            replace HB := Lib.hid (HB.out.later hB)
            replace HKD := Lib.hid ((hB.block D (Array.getElem?_eq_some_iff.1 HKD.out).1).trans HKD.out)
            clear hB
            have hcel := HB.out.cel
            have hfro := HB.out.fro
            gi_wp2_with fail
            have hK' : (Wb.setCell ⟨w.heap.size, 0, none⟩ (.bool true)).heap[D]? = some (.deferred (some [])) := (Below.heap_setCell Wb _ _ D (by show D ≠ w.heap.size; omega)).trans HKD.out
            have hc' : (Wb.setCell ⟨w.heap.size, 0, none⟩ (.bool true)).cell? ⟨w.heap.size, 0, none⟩ = some (.bool true) := World.cell?_setCell_same _ _ _ hcel
            have hc2 := cell_kept hc' (grownBy_putObj' _ D (.deferred none)) (fun r e => by cases e; exact ⟨_, hK', rfl⟩)
            have hBs := HB.out.bel.setCell (p := ⟨w.heap.size, 0, none⟩) (Nat.le_refl _) (.bool true)
            refine ⟨by simp, .inl ⟨_, _, rfl, run_takeDeferred hK', ?_⟩⟩
            refine ⟨.bool true, ?_, rfl, hBs.trans (belowK_b (w := w) (Nat.le_refl _) _ D _ _ (by omega) hK' rfl rfl)⟩
            simp [results, Try.results5, go_sem, hc2]
          · intro D c pre W _ _ h _
            exact h.elim
end Go.Proofs.Ytajjpaabkdgjbaa
