/- The law MemSteps, walked. -/
import Derived.Test.YtajjpaabkdgjbaaG2
import Derived.Test.YtajjpaabkdgjbaaG3
import Derived.Test.YtajjpaabkdgjbaaC5
import Derived.Test.YtajjpaabkdgjbaaC6
import Derived.Test.YtajjpaabkdgjbaaD9
namespace Go.Proofs.Ytajjpaabkdgjbaa
open Go.RowKit

theorem VRow.toU {B : Nat} {w : World} {xs : List Nat} {v : Value} (h : VRow B w xs v) : URow B w xs v := by
  obtain ⟨q, d, h1, h2, h3, h4⟩ := h
  refine ⟨q, d, h1, h2, h3, fun ad had => ?_⟩
  obtain ⟨g, k1, k2, k3, _, k5⟩ := h4 ad had
  exact ⟨g, k1, k2, k3, k5⟩
theorem VutIs.toU {w : World} {go n k : Nat} {xss : List (List Nat)} (h : VutIs w go n k xss) : OutIs w go n k xss := fun i hi => by
  obtain ⟨u, h1, h2, h3⟩ := h i hi
  exact ⟨u, h1, h2, fun hk xs hx => (h3 hk xs hx).toU⟩
theorem VutIs.later {w w' : World} {go n k : Nat} {xss : List (List Nat)} (h : VutIs w go n k xss) (hgo : go < w.heap.size) (hB : Below w.heap.size w w') : VutIs w' go n k xss := fun i hi => by
  obtain ⟨u, h1, h2, h3⟩ := h i hi
  exact ⟨u, (hB.cell (p := ⟨go, i, none⟩) hgo).trans h1, (hB.frozen (p := ⟨go, i, none⟩) hgo).trans h2, fun hk xs hx => (h3 hk xs hx).later hB⟩
/-- what holds throughout the law's long row -/
structure SSt (w : World) (l : List Rg) (f bt : Nat → Nat) (B1 g1 B2 g2 q2 go : Nat) (W : World) : Prop where
  mem : MemIs W B1 g1 l f
  ref : RefIs W B2 g2 l bt
  lt : q2 < W.heap.size
  lt2 : g2 < W.heap.size
  hdr : W.cell? ⟨g2, 1, none⟩ = some (.slice (some ⟨q2, 0, none⟩) 65536 65536)
  byt : ∀ j, j < 65536 → W.cell? ⟨q2, j, none⟩ = some (.int .u8 (bt j : Nat))
  out : VutIs W go l.length l.length (wordsL f l)
  gol : go < W.heap.size
  bel : Below w.heap.size w W
theorem SSt.later {w : World} {l : List Rg} {f bt : Nat → Nat} {B1 g1 B2 g2 q2 go : Nat} {W W' : World} (h : SSt w l f bt B1 g1 B2 g2 q2 go W) (hB : Below W.heap.size W W') : SSt w l f bt B1 g1 B2 g2 q2 go W' :=
  ⟨h.mem.later hB, h.ref.later hB, Nat.lt_of_lt_of_le h.lt hB.size, Nat.lt_of_lt_of_le h.lt2 hB.size, (hB.cell (p := ⟨g2, 1, none⟩) h.lt2).trans h.hdr, fun j hj => (hB.cell (p := ⟨q2, j, none⟩) h.lt).trans (h.byt j hj), h.out.later h.gol hB, Nat.lt_of_lt_of_le h.gol hB.size, h.bel.trans (hB.mono h.bel.size)⟩
theorem words_rel {l : List Rg} {f bt : Nat → Nat} (hr : RelWB f bt) (hb : ∀ j, bt j < 256) (hf : ∀ j, f j < 18446744073709551616) (hok : l.all Rg.ok = true) : l.map (wordsB bt) = wordsL f l :=
  List.map_congr_left fun r hr' => wordsB_eq hr hb hf (List.all_eq_true.1 hok r hr')
theorem wordsL_small {f : Nat → Nat} {l : List Rg} (hok : l.all Rg.ok = true) : ∀ xs ∈ wordsL f l, xs.length ≤ 1000000 := by
  intro xs hx
  obtain ⟨r, hr, rfl⟩ := List.mem_map.1 hx
  obtain ⟨h, _⟩ := Rg.ok_iff.1 (List.all_eq_true.1 hok r hr)
  rw [wordsR_len]; omega
theorem st_str {W : World} {go : Nat} {f bt : Nat → Nat} (hr : RelWB f bt) (hb : ∀ j, bt j < 256) (h : StIs W go 16384 f) : (convert 49 9 (.slice (some ⟨go, 0, none⟩) 16384 16384)).run Try.prog W = .ok (.string (strOf bt 49152 16384)) W :=
  conv_str bt hb 49152 16384 go 0 16384 W fun j hj => by
    obtain ⟨u, hu, _, hr'⟩ := h j hj
    rw [Nat.zero_add, hu, hr' hj, hr (49152 + j) (by omega)]
theorem rf_str {w : World} {l : List Rg} {f bt : Nat → Nat} {B1 g1 B2 g2 q2 go : Nat} {W : World} (hb : ∀ j, bt j < 256) (h : SSt w l f bt B1 g1 B2 g2 q2 go W) : (convert 49 9 (.slice (some ⟨q2, 49152, none⟩) 16384 16384)).run Try.prog W = .ok (.string (strOf bt 49152 16384)) W :=
  conv_str bt hb 49152 16384 q2 49152 16384 W fun j hj => h.byt (49152 + j) (by omega)
/-- what holds between two rounds of the last loop -/
structure LInv (w : World) (l : List Rg) (f bt : Nat → Nat) (B1 g1 B2 g2 go : Nat) (W : World) : Prop where
  mem : MemIs W B1 g1 l f
  ref : RefIs W B2 g2 l bt
  bel : Below w.heap.size w W
  gol : go < W.heap.size
  rows : ∀ i, i < l.length → ∃ gr d n y, W.cell? ⟨go, i, none⟩ = some (.slice (some ⟨gr, 0, none⟩) n d) ∧ 0 < n ∧ go < gr ∧ gr < W.heap.size ∧ W.cell? ⟨gr, 0, none⟩ = some (.int .u64 y) ∧ W.frozen? ⟨gr, 0, none⟩ = false
theorem SSt.start {w : World} {l : List Rg} {f bt : Nat → Nat} {B1 g1 B2 g2 q2 go : Nat} {W : World} (h : SSt w l f bt B1 g1 B2 g2 q2 go W) (hok : l.all Rg.ok = true) : LInv w l f bt B1 g1 B2 g2 go W := by
  refine ⟨h.mem, h.ref, h.bel, h.gol, fun i hi => ?_⟩
  obtain ⟨u, hu, _, hr⟩ := h.out i hi
  obtain ⟨r, hri⟩ : ∃ r, l[i]? = some r := ⟨l[i], List.getElem?_eq_getElem hi⟩
  obtain ⟨q, d, rfl, k1, k2, k3⟩ := hr hi (wordsR f r) (by unfold wordsL; rw [List.getElem?_map, hri]; rfl)
  obtain ⟨⟨_, _, r1, _⟩, _⟩ := Rg.ok_iff.1 (List.all_eq_true.1 hok r (List.mem_of_getElem? hri))
  have hlen : 0 < (wordsR f r).length := by rw [wordsR_len]; omega
  cases q with
  | none => rw [k2 rfl] at hlen; exact absurd hlen (by simp)
  | some ad =>
    obtain ⟨gr, rfl, m1, m2, m3, m4⟩ := k3 ad rfl
    exact ⟨gr, d, _, _, hu, hlen, by omega, m2, m4 0 _ (List.getElem?_eq_getElem hlen), m3 0⟩
theorem LInv.later {w : World} {l : List Rg} {f bt : Nat → Nat} {B1 g1 B2 g2 go : Nat} {W W' : World} (h : LInv w l f bt B1 g1 B2 g2 go W) (hB : Below W.heap.size W W') : LInv w l f bt B1 g1 B2 g2 go W' :=
  ⟨h.mem.later hB, h.ref.later hB, h.bel.trans (hB.mono h.bel.size), Nat.lt_of_lt_of_le h.gol hB.size, fun i hi => by
    obtain ⟨g', d, n, y, k1, k2, k3, k4, k5, k6⟩ := h.rows i hi
    exact ⟨g', d, n, y, (hB.cell (p := ⟨go, i, none⟩) h.gol).trans k1, k2, k3, Nat.lt_of_lt_of_le k4 hB.size, (hB.cell (p := ⟨g', 0, none⟩) k4).trans k5, (hB.frozen (p := ⟨g', 0, none⟩) k4).trans k6⟩⟩
theorem LInv.put {w : World} {l : List Rg} {f bt : Nat → Nat} {B1 g1 B2 g2 go gr : Nat} {W : World} (h : LInv w l f bt B1 g1 B2 g2 go W) (h1 : g1 < go) (h2 : g2 < go) (h3 : w.heap.size ≤ go) (h4 : go < gr) (z : Int) : LInv w l f bt B1 g1 B2 g2 go (W.setCell ⟨gr, 0, none⟩ (.int .u64 z)) := by
  have hA : Agr gr W (W.setCell ⟨gr, 0, none⟩ (.int .u64 z)) := Agr.setCell _
  refine ⟨h.mem.agr hA (.inr (by omega)), h.ref.agr hA (.inr (by omega)), Agr.below h.bel hA (by omega) h.bel.size, Nat.lt_of_lt_of_le h.gol hA.size, fun i hi => ?_⟩
  obtain ⟨g', d, n, y, k1, k2, k3, k4, k5, k6⟩ := h.rows i hi
  refine ⟨g', d, n, if g' = gr then z else y, ?_, k2, k3, Nat.lt_of_lt_of_le k4 hA.size, ?_, by rw [World.frozen?_setCell]; exact k6⟩
  · rw [World.cell?_setCell_other _ _ _ _ (fun e => by have := congrArg Addr.block e; simp at this; omega)]; exact k1
  · by_cases e : g' = gr
    · subst e
      rw [if_pos rfl]
      exact World.cell?_setCell_same _ _ _ k5
    · rw [if_neg e, World.cell?_setCell_other _ _ _ _ (fun e' => by have := congrArg Addr.block e'; simp at this; omega)]; exact k5
set_option maxRecDepth 100000 in
set_option maxHeartbeats 12800000 in
theorem steps_law (l : List Rg) (xs : List (List Nat)) (ss : List Stp) (p p2 p3 : Option Addr) (c c2 c3 a : Nat) (leave : Int) (w : World)
    (hl : RgIn w w.heap.size l p) (hx : WsIn w w.heap.size xs p2) (hs : StpIn w w.heap.size ss p3)
    (hc : l.length ≤ c) (hcm : c ≤ 9223372036854775807) (hp : p = none → c = 0) (ha : a < 18446744073709551616) :
    Calls Try.prog 3 #[.slice p l.length c, .slice p2 xs.length c2, .slice p3 ss.length c3, .int .u64 (a : Int), .int .i64 leave] w fun e w' => e = .returned (.bool true) ∧ Below w.heap.size w w' := by
  have HK : Hid (∀ w', Below w.heap.size w w' → Calls Try.prog 7 #[] w' fun e w'' => e = .returned (.bool true) ∧ Below w.heap.size w w'') := Lib.hid fun w' hB => (known_any w').mono fun e w'' h => ⟨h.1, hB.trans (h.2.mono hB.size)⟩
  have HLl : Hid (∀ w', Below w.heap.size w w' → Calls Try.prog 6 #[.slice p l.length c] w' fun e w'' => e = .returned (.bool (longB l)) ∧ Below w.heap.size w w'') := Lib.hid fun w' hB => (long_any l p c _ w' (hl.later hB (Nat.le_refl _))).mono fun e w'' h => ⟨h.1, h.2 ▸ hB⟩
  have HMl : Hid (∀ w', Below w.heap.size w w' → Calls Try.prog 8 #[.slice p l.length c] w' fun e w'' => e = .returned (.bool (mayB l)) ∧ Below w.heap.size w w'') := Lib.hid fun w' hB => (refMay_any l p c _ w' (hl.later hB (Nat.le_refl _)) hB.size).mono fun e w'' h => ⟨h.1, hB.trans (h.2.mono hB.size)⟩
  have HFl : Hid (∀ w', Below w.heap.size w w' → Calls Try.prog 9 #[.slice p l.length c, .slice p2 xs.length c2] w' fun e w'' => e = .returned (.bool (fitsB l xs)) ∧ Below w.heap.size w w'') := Lib.hid fun w' hB => (refFits_any l xs p p2 c c2 _ w' (hl.later hB (Nat.le_refl _)) (hx.later hB (Nat.le_refl _)) hB.size).mono fun e w'' h => ⟨h.1, hB.trans (h.2.mono hB.size)⟩
  have HPl : Hid (mayB l = true → fitsB l xs = true → ∀ w', Below w.heap.size w w' → Calls Try.prog 12 #[.slice p l.length c, .slice p2 xs.length c2, .slice p3 ss.length c3] w' (PlayHas l w')) := Lib.hid fun hm hf w' hB => play_has l xs ss p p2 p3 c c2 c3 _ w' (hl.later hB (Nat.le_refl _)) (hx.later hB (Nat.le_refl _)) (hs.later hB (Nat.le_refl _)) hB.size hc hcm hp hm hf
  have HOf : Hid ((mayB l && fitsB l xs) = false → ∀ w', Below w.heap.size w w' → Calls Try.prog 10 #[.slice p l.length c, .slice p2 xs.length c2] w' fun e w'' => e = .returned (.tuple #[.pointer none, .int .i64 2]) ∧ Below w.heap.size w w'') := Lib.hid fun hm w' hB => (of_no l xs p p2 c c2 _ w' (hl.later hB (Nat.le_refl _)) (hx.later hB (Nat.le_refl _)) hB.size hc hcm hm).mono fun e w'' h => ⟨h.1, hB.trans (h.2.mono hB.size)⟩
  have HOk : Hid (mayB l = true → l.all Rg.ok = true ∧ l.length ≤ 16) := Lib.hid fun hm => by simp only [mayB, Bool.and_eq_true, decide_eq_true_eq] at hm; exact ⟨hm.2.1, hm.1⟩
  have hm1 := hs.1
  have hm2 := hx.1
  have HB : Hid (Below w.heap.size w w) := Lib.hid (Below.refl _ w)
  generalize longB l = b1 at HLl
  generalize mayB l = b3 at HMl HPl HOf HOk
  generalize fitsB l xs = b5 at HFl HPl HOf
  clear hl hx hs hc hcm hp
  go_enter Try.func3, Try.ntmps3
  go_wp2_with fail
  refine (HLl.out _ ?_).mono ?_
  · first | exact HB.out | exact HB.out.drew
  rintro e wa ⟨rfl, hB⟩
  replace HB := Lib.hid hB
  clear hB
  cases b1 with
  | true =>
    clear HPl HOf HOk
    go_wp2_with fail
    refine (HK.out _ ?_).mono ?_
    · first | exact HB.out | exact HB.out.drew
    rintro e wa ⟨rfl, hB⟩
    replace HB := Lib.hid hB
    clear hB
    go_wp2_with fail
    go_ret
    exact ⟨rfl, HB.out⟩
  | false =>
    by_cases hxs : 40 < xs.length
    · skip
      clear HPl HOf HOk
      go_wp2_with fail
      refine (HK.out _ ?_).mono ?_
      · first | exact HB.out | exact HB.out.drew
      rintro e wa ⟨rfl, hB⟩
      replace HB := Lib.hid hB
      clear hB
      go_wp2_with fail
      go_ret
      exact ⟨rfl, HB.out⟩
    · skip
      by_cases hss : 60 < ss.length
      · skip
        clear HPl HOf HOk
        go_wp2_with fail
        refine (HK.out _ ?_).mono ?_
        · first | exact HB.out | exact HB.out.drew
        rintro e wa ⟨rfl, hB⟩
        replace HB := Lib.hid hB
        clear hB
        go_wp2_with fail
        go_ret
        exact ⟨rfl, HB.out⟩
      · skip
        go_wp2_with fail
        refine (HMl.out _ ?_).mono ?_
        · first | exact HB.out | exact HB.out.drew
        rintro e wa ⟨rfl, hB⟩
        replace HB := Lib.hid hB
        clear hB
        cases b3 with
        | false =>
          go_wp2_with fail
          refine (HOf.out (by rfl) _ ?_).mono ?_
          · first | exact HB.out | exact HB.out.drew
          rintro e wa ⟨rfl, hB⟩
          replace HB := Lib.hid hB
          clear hB
          go_wp2_with fail
          refine (num_any 2 _).mono ?_
          rintro e w' ⟨rfl, rfl⟩
          clear HPl HOf HOk
          go_wp2_with fail
          refine (HK.out _ ?_).mono ?_
          · first | exact HB.out | exact HB.out.drew
          rintro e wa ⟨rfl, hB⟩
          replace HB := Lib.hid hB
          clear hB
          go_wp2_with fail
          go_ret
          exact ⟨rfl, HB.out⟩
        | true =>
          go_wp2_with fail
          refine (HFl.out _ ?_).mono ?_
          · first | exact HB.out | exact HB.out.drew
          rintro e wa ⟨rfl, hB⟩
          replace HB := Lib.hid hB
          clear hB
          cases b5 with
          | false =>
            go_wp2_with fail
            refine (HOf.out (by rfl) _ ?_).mono ?_
            · first | exact HB.out | exact HB.out.drew
            rintro e wa ⟨rfl, hB⟩
            replace HB := Lib.hid hB
            clear hB
            go_wp2_with fail
            refine (num_any 2 _).mono ?_
            rintro e w' ⟨rfl, rfl⟩
            clear HPl HOf HOk
            go_wp2_with fail
            refine (HK.out _ ?_).mono ?_
            · first | exact HB.out | exact HB.out.drew
            rintro e wa ⟨rfl, hB⟩
            replace HB := Lib.hid hB
            clear hB
            go_wp2_with fail
            go_ret
            exact ⟨rfl, HB.out⟩
          | true =>
            go_wp2_with fail
            refine (HPl.out (by trivial) (by trivial) _ ?_).mono ?_
            · first | exact HB.out | exact HB.out.drew
            rintro e w1 ⟨B1, g1, B2, g2, f, bt, rfl, hI, hR, hrl, _, hb1, hb2, hB, hH⟩
            obtain ⟨hok, hl16⟩ := HOk.out (by trivial)
            have hf := hI.bd
            have hb8 : ∀ j, bt j < 256 := by obtain ⟨_, _, _, _, _, _, _, _, _, _, _, _, _, _, hb⟩ := hR; exact hb
            replace HB := Lib.hid (HB.out.trans (Below.mono (by first | exact hB | exact (Below.refl _ _).drew.trans (hB.mono (by simp))) HB.out.size))
            have HT := Lib.hid hrl
            have HH := Lib.hid hH
            have HOK := Lib.hid hok
            have HB8 := Lib.hid hb8
            have HBD := Lib.hid hf
            have HX1 := Lib.hid (fun W (h : MemIs W B1 g1 l f) => load_any l f B1 g1 a W h hok ha)
            have HX2 := Lib.hid (fun W (h : RefIs W B2 g2 l bt) => refLoad_any l bt B2 g2 a W h hok ha)
            have HX3 := Lib.hid (fun W (h : MemIs W B1 g1 l f) => loadByte_any l f B1 g1 a W h hok ha)
            have HX4 := Lib.hid (fun W (h : RefIs W B2 g2 l bt) => refLoadB_any l bt B2 g2 a W h hok ha)
            have HX5 := Lib.hid (fun W (h : MemIs W B1 g1 l f) => place_any l f B1 g1 a W h hok ha)
            have HX6 := Lib.hid (fun W (h : RefIs W B2 g2 l bt) => refPlace_any l bt B2 g2 a W h hok ha)
            rw [refLoadV_eq hok hrl hb8 hf a] at HX2
            rw [refLoadBV_eq hok hrl a] at HX4
            generalize loadV l f a = xv at HX1 HX2
            generalize errW l a = ev at HX1 HX2
            generalize loadB l f a = bv at HX3 HX4
            generalize errB l a = fv at HX3 HX4
            generalize (placeOf l a).1 = pv at HX5 HX6
            generalize (placeOf l a).2 = qv at HX5 HX6
            have HM := Lib.hid hI
            have HR := Lib.hid hR
            clear hI hR hrl hH hB hok hf hb8 HPl HOf HOk HMl HFl HLl
            go_wp2_with fail
            refine (HX1.out _ HM.out).mono ?_
            rintro e wx0 ⟨rfl, hB⟩
            replace HM := Lib.hid (HM.out.later hB)
            replace HR := Lib.hid (HR.out.later hB)
            replace HB := Lib.hid (HB.out.trans (hB.mono HB.out.size))
            clear hB HX1
            go_wp2_with fail
            refine (HX2.out _ HR.out).mono ?_
            rintro e wx1 ⟨rfl, hB⟩
            replace HM := Lib.hid (HM.out.later hB)
            replace HR := Lib.hid (HR.out.later hB)
            replace HB := Lib.hid (HB.out.trans (hB.mono HB.out.size))
            clear hB HX2
            go_wp2_with fail
            refine (HX3.out _ HM.out).mono ?_
            rintro e wx2 ⟨rfl, hB⟩
            replace HM := Lib.hid (HM.out.later hB)
            replace HR := Lib.hid (HR.out.later hB)
            replace HB := Lib.hid (HB.out.trans (hB.mono HB.out.size))
            clear hB HX3
            go_wp2_with fail
            refine (HX4.out _ HR.out).mono ?_
            rintro e wx3 ⟨rfl, hB⟩
            replace HM := Lib.hid (HM.out.later hB)
            replace HR := Lib.hid (HR.out.later hB)
            replace HB := Lib.hid (HB.out.trans (hB.mono HB.out.size))
            clear hB HX4
            go_wp2_with fail
            refine (HX5.out _ HM.out).mono ?_
            rintro e wx4 ⟨rfl, hB⟩
            replace HM := Lib.hid (HM.out.later hB)
            replace HR := Lib.hid (HR.out.later hB)
            replace HB := Lib.hid (HB.out.trans (hB.mono HB.out.size))
            clear hB HX5
            go_wp2_with fail
            refine (HX6.out _ HR.out).mono ?_
            rintro e wx5 ⟨rfl, hB⟩
            replace HM := Lib.hid (HM.out.later hB)
            replace HR := Lib.hid (HR.out.later hB)
            replace HB := Lib.hid (HB.out.trans (hB.mono HB.out.size))
            clear hB HX6
            go_wp2_with fail
            refine (num_any _ _).mono ?_
            rintro e w' ⟨rfl, rfl⟩
            go_wp2_with fail
            refine (num_any _ _).mono ?_
            rintro e w' ⟨rfl, rfl⟩
            have hg1 := HM.out.gt
            have hg2 : g2 < wx5.heap.size := by obtain ⟨_, _, _, _, _, _, _, _, h, _⟩ := HR.out; exact h
            have hws := HB.out.size
            go_wp2_with fail
            refine (wordsV_any l f B1 g1 _ HM.out HOK.out hl16).mono ?_
            rintro e w5 ⟨⟨rfl, hO⟩, hgo, hB⟩
            obtain ⟨go, hgoe⟩ : ∃ go, go = wx5.heap.size := ⟨_, rfl⟩
            rw [← hgoe] at hO hgo
            have k1g : g1 < go := by omega
            have k2g : g2 < go := by omega
            have kwg : w.heap.size ≤ go := by omega
            replace HM := Lib.hid (HM.out.later hB)
            replace HR := Lib.hid (HR.out.later hB)
            replace HB := Lib.hid (HB.out.trans (hB.mono HB.out.size))
            have HO := Lib.hid hO
            rw [← hgoe]
            clear hO hB hgoe
            go_wp2_with fail
            obtain ⟨p2', c2', q2, k1, k2, k4, k5, k6, k7, k8, k9, k10, k11, k12, k13⟩ := HR.out
            have HS : Hid (SSt w l f bt B1 g1 B2 g2 q2 go w5) := Lib.hid ⟨HM.out, HR.out, by omega, k7, k2, fun j hj => (k12 j hj).1, HO.out, hgo, HB.out⟩
            clear k1 k2 k4 k5 k6 k7 k8 k9 k10 k11 k12 k13
            obtain ⟨s0, hs0'⟩ : ∃ s, strOf bt 49152 16384 = s := ⟨_, rfl⟩
            have hs0 := Lib.hid hs0'
            clear hs0' HM HR HB HO
            refine wp_region_held_drew (S := (fun W => SSt w l f bt B1 g1 B2 g2 q2 go W)) (by kernel_rfl) ?_ (fun hHeld => ?_)
            · exact HS.out.later (Below.refl _ _).drew
            refine wpAnyH_take (i := 0) (oi := { dst := Option.some 146, op := Go.Op.move (Go.Operand.tmp 28), type := 23, pos := "law.go:140", after := #[], guard := Option.none }) (v := ?_) rfl (by kernel_rfl) (by kernel_rfl) (by kernel_rfl) (fun _ _ _ h => h) (Or.inl ⟨by rfl, ?_⟩) (by assumption) ?_
            rotate_left
            · (intro w hSw; (try dsimp only at hSw); go_simp; try with_reducible rfl)
            try simp only [Act.put, List.setIfInBounds_toArray, List.set_cons_zero, List.set_cons_succ]
            refine wpAnyH_take (i := 1) (oi := { dst := Option.some 147, op := Go.Op.move (Go.Operand.tmp 14), type := 34, pos := "law.go:140", after := #[], guard := Option.none }) (v := ?_) rfl (by kernel_rfl) (by kernel_rfl) (by kernel_rfl) (fun _ _ _ h => h) (Or.inl ⟨by rfl, ?_⟩) (by assumption) ?_
            rotate_left
            · (intro w hSw; (try dsimp only at hSw); go_simp; try with_reducible rfl)
            try simp only [Act.put, List.setIfInBounds_toArray, List.set_cons_zero, List.set_cons_succ]
            refine wpAnyH_ready (rs := [2]) (by kernel_rfl) (by simp) ?_
            refine AllReadyH.cons (o := { dst := Option.some 148, op := Go.Op.call { callee := Go.Callee.value (Go.Operand.func 21), args := #[Go.Operand.tmp 147], argTypes := #[34] }, type := 23, pos := "law.go:140", after := #[{ on := 1, ground := Go.Ground.data }], guard := Option.none }) rfl (fun K hK => ?_) AllReadyH.nil
            go_simp
            refine (refWords_any l _ B2 g2 _ hHeld.ref HOK.out hl16).mono ?_
            rintro e W2 ⟨⟨v2, rfl, hv2⟩, hB⟩
            rw [words_rel HT.out HB8.out HBD.out HOK.out] at hv2
            have HRV := Lib.hid hv2
            clear hv2
            refine hK.out _ _ ?_ (fun hHeld => ?_)
            · (try dsimp only); exact SSt.later hHeld hB
            clear hK K
            try simp only [Act.put, List.setIfInBounds_toArray, List.set_cons_zero, List.set_cons_succ]
            refine wpAnyH_ready (rs := [3]) (by kernel_rfl) (by simp) ?_
            refine AllReadyH.cons (o := { dst := Option.some 149, op := Go.Op.call { callee := Go.Callee.value (Go.Operand.func 20), args := #[Go.Operand.tmp 146, Go.Operand.tmp 148], argTypes := #[23, 23] }, type := 4, pos := "law.go:140", after := #[{ on := 0, ground := Go.Ground.data }, { on := 2, ground := Go.Ground.data }, { on := 2, ground := Go.Ground.chain }], guard := Option.none }) rfl (fun K hK => ?_) AllReadyH.nil
            go_simp
            refine (sameWords_eq _ _ v2 _ (RRows.of (by simp [wordsL]) hHeld.out.toU hHeld.gol) HRV.out (by simp [wordsL]; omega) (wordsL_small HOK.out)).mono ?_
            rintro e W3 ⟨rfl, hB⟩
            refine hK.out _ _ ?_ (fun hHeld => ?_)
            · (try dsimp only); exact SSt.later hHeld hB
            clear hK K
            try simp only [Act.put, List.setIfInBounds_toArray, List.set_cons_zero, List.set_cons_succ]
            refine wpAnyH_take (i := 4) (oi := { dst := Option.some 150, op := Go.Op.unOp Go.UnOp.not 4 (Go.Operand.tmp 149), type := 4, pos := "law.go:140", after := #[{ on := 3, ground := Go.Ground.data }], guard := Option.none }) (v := ?_) rfl (by kernel_rfl) (by kernel_rfl) (by kernel_rfl) (fun _ _ _ h => h) (Or.inl ⟨by rfl, ?_⟩) (by assumption) ?_
            rotate_left
            · (intro w hSw; (try dsimp only at hSw); go_simp; try with_reducible rfl)
            try simp only [Act.put, List.setIfInBounds_toArray, List.set_cons_zero, List.set_cons_succ]
            refine wpAnyH_take (i := 5) (oi := { dst := Option.some 151, op := Go.Op.move (Go.Operand.tmp 150), type := 4, pos := "law.go:140", after := #[{ on := 4, ground := Go.Ground.data }, { on := 3, ground := Go.Ground.chain }], guard := Option.none }) (v := ?_) rfl (by kernel_rfl) (by kernel_rfl) (by kernel_rfl) (fun _ _ _ h => h) (Or.inl ⟨by rfl, ?_⟩) (by assumption) ?_
            rotate_left
            · (intro w hSw; (try dsimp only at hSw); go_simp; try with_reducible rfl)
            try simp only [Act.put, List.setIfInBounds_toArray, List.set_cons_zero, List.set_cons_succ]
            refine wpAnyH_take (i := 6) (oi := { dst := Option.some 152, op := Go.Op.move (Go.Operand.tmp 13), type := 29, pos := "law.go:140", after := #[{ on := 5, ground := Go.Ground.guard }], guard := Option.some (5, Bool.false) }) (v := ?_) rfl (by kernel_rfl) (by kernel_rfl) (by kernel_rfl) (fun _ _ _ h => h) (Or.inl ⟨by rfl, ?_⟩) (by assumption) ?_
            rotate_left
            · (intro w hSw; (try dsimp only at hSw); go_simp; try with_reducible rfl)
            try simp only [Act.put, List.setIfInBounds_toArray, List.set_cons_zero, List.set_cons_succ]
            refine wpAnyH_take (i := 9) (oi := { dst := Option.some 155, op := Go.Op.move (Go.Operand.tmp 14), type := 34, pos := "law.go:140", after := #[{ on := 5, ground := Go.Ground.guard }], guard := Option.some (5, Bool.false) }) (v := ?_) rfl (by kernel_rfl) (by kernel_rfl) (by kernel_rfl) (fun _ _ _ h => h) (Or.inl ⟨by rfl, ?_⟩) (by assumption) ?_
            rotate_left
            · (intro w hSw; (try dsimp only at hSw); go_simp; try with_reducible rfl)
            try simp only [Act.put, List.setIfInBounds_toArray, List.set_cons_zero, List.set_cons_succ]
            refine wpAnyH_take (i := 10) (oi := { dst := Option.some 156, op := Go.Op.nilCheck (Go.Operand.tmp 155), type := 0, pos := "law.go:140", after := #[{ on := 9, ground := Go.Ground.data }, { on := 5, ground := Go.Ground.guard }], guard := Option.some (5, Bool.false) }) (v := ?_) rfl (by kernel_rfl) (by kernel_rfl) (by kernel_rfl) (fun _ _ _ h => h) (Or.inl ⟨by rfl, ?_⟩) (by assumption) ?_
            rotate_left
            · (intro w hSw; (try dsimp only at hSw); go_simp; try with_reducible rfl)
            try simp only [Act.put, List.setIfInBounds_toArray, List.set_cons_zero, List.set_cons_succ]
            refine wpAnyH_take (i := 11) (oi := { dst := Option.some 157, op := Go.Op.fieldAddr 52 (Go.Operand.tmp 156) 1, type := 0, pos := "law.go:140", after := #[{ on := 10, ground := Go.Ground.data }, { on := 5, ground := Go.Ground.guard }], guard := Option.some (5, Bool.false) }) (v := ?_) rfl (by kernel_rfl) (by kernel_rfl) (by kernel_rfl) (fun _ _ _ h => h) (Or.inl ⟨by rfl, ?_⟩) (by assumption) ?_
            rotate_left
            · (intro w hSw; (try dsimp only at hSw); go_simp; try with_reducible rfl)
            try simp only [Act.put, List.setIfInBounds_toArray, List.set_cons_zero, List.set_cons_succ]
            refine wpAnyH_take (i := 12) (oi := { dst := Option.some 158, op := Go.Op.load 49 (Go.Operand.tmp 157), type := 49, pos := "law.go:140", after := #[{ on := 11, ground := Go.Ground.data }, { on := 5, ground := Go.Ground.guard }], guard := Option.some (5, Bool.false) }) (v := ?_) rfl (by kernel_rfl) (by kernel_rfl) (by kernel_rfl) (fun _ _ _ h => h) (Or.inl ⟨by rfl, ?_⟩) (by assumption) ?_
            rotate_left
            · (intro w hSw; (try dsimp only at hSw); have hq := hSw.hdr; go_simp; try with_reducible rfl)
            try simp only [Act.put, List.setIfInBounds_toArray, List.set_cons_zero, List.set_cons_succ]
            refine wpAnyH_take (i := 13) (oi := { dst := Option.some 159, op := Go.Op.slice 49 (Go.Operand.tmp 158) (Option.some (Go.Operand.const (Go.Value.int Go.IntKind.i64 49152))) Option.none Option.none, type := 49, pos := "law.go:140", after := #[{ on := 12, ground := Go.Ground.data }, { on := 5, ground := Go.Ground.guard }], guard := Option.some (5, Bool.false) }) (v := ?_) rfl (by kernel_rfl) (by kernel_rfl) (by kernel_rfl) (fun _ _ _ h => h) (Or.inl ⟨by rfl, ?_⟩) (by assumption) ?_
            rotate_left
            · (intro w hSw; (try dsimp only at hSw); go_simp; try with_reducible rfl)
            try simp only [Act.put, List.setIfInBounds_toArray, List.set_cons_zero, List.set_cons_succ]
            refine wpAnyH_take (i := 14) (oi := { dst := Option.some 160, op := Go.Op.convert 49 9 (Go.Operand.tmp 159), type := 9, pos := "law.go:140", after := #[{ on := 13, ground := Go.Ground.data }, { on := 5, ground := Go.Ground.guard }], guard := Option.some (5, Bool.false) }) (v := ?_) rfl (by kernel_rfl) (by kernel_rfl) (by kernel_rfl) (fun _ _ _ h => h) (Or.inl ⟨by rfl, ?_⟩) (by assumption) ?_
            rotate_left
            · (intro w hSw; (try dsimp only at hSw); have hq := rf_str HB8.out hSw; rw [hs0.out] at hq; go_simp; try with_reducible rfl)
            try simp only [Act.put, List.setIfInBounds_toArray, List.set_cons_zero, List.set_cons_succ]
            refine wpAnyH_ready (rs := [7]) (by kernel_rfl) (by simp) ?_
            refine AllReadyH.cons (o := { dst := Option.some 153, op := Go.Op.call { callee := Go.Callee.value (Go.Operand.func 22), args := #[Go.Operand.tmp 152], argTypes := #[29] }, type := 49, pos := "law.go:140", after := #[{ on := 6, ground := Go.Ground.data }, { on := 5, ground := Go.Ground.chain }, { on := 5, ground := Go.Ground.guard }], guard := Option.some (5, Bool.false) }) rfl (fun K hK => ?_) AllReadyH.nil
            go_simp
            refine (stack_any l _ B1 g1 _ hHeld.mem).mono ?_
            rintro e W7 ⟨⟨rfl, hst⟩, hB⟩
            have hcv := st_str HT.out HB8.out hst
            rw [hs0.out] at hcv
            refine hK.out _ _ ?_ (fun hHeld => ?_)
            · (try dsimp only); exact SSt.later hHeld hB
            clear hK K
            try simp only [Act.put, List.setIfInBounds_toArray, List.set_cons_zero, List.set_cons_succ]
            refine wpAnyH_ready (rs := [8]) (by kernel_rfl) (by simp) ?_
            refine AllReadyH.cons (o := { dst := Option.some 154, op := Go.Op.convert 49 9 (Go.Operand.tmp 153), type := 9, pos := "law.go:140", after := #[{ on := 7, ground := Go.Ground.data }, { on := 5, ground := Go.Ground.guard }], guard := Option.some (5, Bool.false) }) rfl (fun K hK => ?_) AllReadyH.nil
            go_simp
            refine hK.out _ _ ?_ (fun hHeld => ?_)
            · (try dsimp only); exact hHeld
            clear hK K
            try simp only [Act.put, List.setIfInBounds_toArray, List.set_cons_zero, List.set_cons_succ]
            refine wpAnyH_take (i := 15) (oi := { dst := Option.some 161, op := Go.Op.binOp Go.BinOp.neq 9 (Go.Operand.tmp 154) (Go.Operand.tmp 160) 9, type := 4, pos := "law.go:140", after := #[{ on := 8, ground := Go.Ground.data }, { on := 14, ground := Go.Ground.data }, { on := 5, ground := Go.Ground.guard }], guard := Option.some (5, Bool.false) }) (v := ?_) rfl (by kernel_rfl) (by kernel_rfl) (by kernel_rfl) (fun _ _ _ h => h) (Or.inl ⟨by rfl, ?_⟩) (by assumption) ?_
            rotate_left
            · (intro w hSw; (try dsimp only at hSw); go_simp; try with_reducible rfl)
            try simp only [Act.put, List.setIfInBounds_toArray, List.set_cons_zero, List.set_cons_succ]
            refine wpAnyH_take (i := 16) (oi := { dst := Option.some 162, op := Go.Op.pick (Go.Operand.tmp 151) (Go.Operand.const (Go.Value.bool Bool.true)) (Go.Operand.tmp 161), type := 4, pos := "law.go:140", after := #[{ on := 5, ground := Go.Ground.data }, { on := 15, ground := Go.Ground.data }], guard := Option.none }) (v := ?_) rfl (by kernel_rfl) (by kernel_rfl) (by kernel_rfl) (fun _ _ _ h => h) (Or.inl ⟨by rfl, ?_⟩) (by assumption) ?_
            rotate_left
            · (intro w hSw; (try dsimp only at hSw); go_simp; try with_reducible rfl)
            try simp only [Act.put, List.setIfInBounds_toArray, List.set_cons_zero, List.set_cons_succ]
            refine wpAnyH_take (i := 17) (oi := { dst := Option.some 163, op := Go.Op.move (Go.Operand.tmp 162), type := 4, pos := "law.go:140", after := #[{ on := 16, ground := Go.Ground.data }, { on := 7, ground := Go.Ground.chain }], guard := Option.none }) (v := ?_) rfl (by kernel_rfl) (by kernel_rfl) (by kernel_rfl) (fun _ _ _ h => h) (Or.inl ⟨by rfl, ?_⟩) (by assumption) ?_
            rotate_left
            · (intro w hSw; (try dsimp only at hSw); go_simp; try with_reducible rfl)
            try simp only [Act.put, List.setIfInBounds_toArray, List.set_cons_zero, List.set_cons_succ]
            refine wpAnyH_take (i := 18) (oi := { dst := Option.some 164, op := Go.Op.move (Go.Operand.tmp 13), type := 29, pos := "law.go:140", after := #[{ on := 17, ground := Go.Ground.guard }], guard := Option.some (17, Bool.false) }) (v := ?_) rfl (by kernel_rfl) (by kernel_rfl) (by kernel_rfl) (fun _ _ _ h => h) (Or.inl ⟨by rfl, ?_⟩) (by assumption) ?_
            rotate_left
            · (intro w hSw; (try dsimp only at hSw); go_simp; try with_reducible rfl)
            try simp only [Act.put, List.setIfInBounds_toArray, List.set_cons_zero, List.set_cons_succ]
            refine wpAnyH_take (i := 19) (oi := { dst := Option.some 165, op := Go.Op.move (Go.Operand.tmp 14), type := 34, pos := "law.go:140", after := #[{ on := 17, ground := Go.Ground.guard }], guard := Option.some (17, Bool.false) }) (v := ?_) rfl (by kernel_rfl) (by kernel_rfl) (by kernel_rfl) (fun _ _ _ h => h) (Or.inl ⟨by rfl, ?_⟩) (by assumption) ?_
            rotate_left
            · (intro w hSw; (try dsimp only at hSw); go_simp; try with_reducible rfl)
            try simp only [Act.put, List.setIfInBounds_toArray, List.set_cons_zero, List.set_cons_succ]
            refine wpAnyH_take (i := 20) (oi := { dst := Option.some 166, op := Go.Op.move (Go.Operand.tmp 4), type := 3, pos := "law.go:140", after := #[{ on := 17, ground := Go.Ground.guard }], guard := Option.some (17, Bool.false) }) (v := ?_) rfl (by kernel_rfl) (by kernel_rfl) (by kernel_rfl) (fun _ _ _ h => h) (Or.inl ⟨by rfl, ?_⟩) (by assumption) ?_
            rotate_left
            · (intro w hSw; (try dsimp only at hSw); go_simp; try with_reducible rfl)
            try simp only [Act.put, List.setIfInBounds_toArray, List.set_cons_zero, List.set_cons_succ]
            refine wpAnyH_ready (rs := [21]) (by kernel_rfl) (by simp) ?_
            refine AllReadyH.cons (o := { dst := Option.some 167, op := Go.Op.call { callee := Go.Callee.value (Go.Operand.func 23), args := #[Go.Operand.tmp 164, Go.Operand.tmp 165, Go.Operand.tmp 166], argTypes := #[29, 34, 3] }, type := 4, pos := "law.go:140", after := #[{ on := 18, ground := Go.Ground.data }, { on := 19, ground := Go.Ground.data }, { on := 20, ground := Go.Ground.data }, { on := 17, ground := Go.Ground.chain }, { on := 17, ground := Go.Ground.guard }], guard := Option.some (17, Bool.false) }) rfl (fun K hK => ?_) AllReadyH.nil
            go_simp
            refine (once_any l f bt B1 g1 B2 g2 _ _ hHeld.mem hHeld.ref HT.out HOK.out HH.out).mono ?_
            rintro e W21 ⟨rfl, hB⟩
            refine hK.out _ _ ?_ (fun hHeld => ?_)
            · (try dsimp only); exact SSt.later hHeld hB
            clear hK K
            try simp only [Act.put, List.setIfInBounds_toArray, List.set_cons_zero, List.set_cons_succ]
            refine wpAnyH_take (i := 22) (oi := { dst := Option.some 168, op := Go.Op.unOp Go.UnOp.not 4 (Go.Operand.tmp 167), type := 4, pos := "law.go:140", after := #[{ on := 21, ground := Go.Ground.data }, { on := 17, ground := Go.Ground.guard }], guard := Option.some (17, Bool.false) }) (v := ?_) rfl (by kernel_rfl) (by kernel_rfl) (by kernel_rfl) (fun _ _ _ h => h) (Or.inl ⟨by rfl, ?_⟩) (by assumption) ?_
            rotate_left
            · (intro w hSw; (try dsimp only at hSw); go_simp; try with_reducible rfl)
            try simp only [Act.put, List.setIfInBounds_toArray, List.set_cons_zero, List.set_cons_succ]
            refine wpAnyH_take (i := 23) (oi := { dst := Option.some 169, op := Go.Op.pick (Go.Operand.tmp 163) (Go.Operand.const (Go.Value.bool Bool.true)) (Go.Operand.tmp 168), type := 4, pos := "law.go:140", after := #[{ on := 17, ground := Go.Ground.data }, { on := 22, ground := Go.Ground.data }], guard := Option.none }) (v := ?_) rfl (by kernel_rfl) (by kernel_rfl) (by kernel_rfl) (fun _ _ _ h => h) (Or.inl ⟨by rfl, ?_⟩) (by assumption) ?_
            rotate_left
            · (intro w hSw; (try dsimp only at hSw); go_simp; try with_reducible rfl)
            try simp only [Act.put, List.setIfInBounds_toArray, List.set_cons_zero, List.set_cons_succ]
            refine wpAnyH_take (i := 24) (oi := { dst := Option.some 170, op := Go.Op.move (Go.Operand.tmp 169), type := 4, pos := "law.go:140", after := #[{ on := 23, ground := Go.Ground.data }, { on := 21, ground := Go.Ground.chain }], guard := Option.none }) (v := ?_) rfl (by kernel_rfl) (by kernel_rfl) (by kernel_rfl) (fun _ _ _ h => h) (Or.inl ⟨by rfl, ?_⟩) (by assumption) ?_
            rotate_left
            · (intro w hSw; (try dsimp only at hSw); go_simp; try with_reducible rfl)
            try simp only [Act.put, List.setIfInBounds_toArray, List.set_cons_zero, List.set_cons_succ]
            refine wpAnyH_take (i := 25) (oi := { dst := Option.some 171, op := Go.Op.move (Go.Operand.tmp 13), type := 29, pos := "law.go:140", after := #[{ on := 24, ground := Go.Ground.guard }], guard := Option.some (24, Bool.false) }) (v := ?_) rfl (by kernel_rfl) (by kernel_rfl) (by kernel_rfl) (fun _ _ _ h => h) (Or.inl ⟨by rfl, ?_⟩) (by assumption) ?_
            rotate_left
            · (intro w hSw; (try dsimp only at hSw); go_simp; try with_reducible rfl)
            try simp only [Act.put, List.setIfInBounds_toArray, List.set_cons_zero, List.set_cons_succ]
            refine wpAnyH_take (i := 26) (oi := { dst := Option.some 172, op := Go.Op.move (Go.Operand.tmp 14), type := 34, pos := "law.go:140", after := #[{ on := 24, ground := Go.Ground.guard }], guard := Option.some (24, Bool.false) }) (v := ?_) rfl (by kernel_rfl) (by kernel_rfl) (by kernel_rfl) (fun _ _ _ h => h) (Or.inl ⟨by rfl, ?_⟩) (by assumption) ?_
            rotate_left
            · (intro w hSw; (try dsimp only at hSw); go_simp; try with_reducible rfl)
            try simp only [Act.put, List.setIfInBounds_toArray, List.set_cons_zero, List.set_cons_succ]
            refine wpAnyH_ready (rs := [27]) (by kernel_rfl) (by simp) ?_
            refine AllReadyH.cons (o := { dst := Option.some 173, op := Go.Op.call { callee := Go.Callee.value (Go.Operand.func 23), args := #[Go.Operand.tmp 171, Go.Operand.tmp 172, Go.Operand.const (Go.Value.int Go.IntKind.i64 0)], argTypes := #[29, 34, 3] }, type := 4, pos := "law.go:140", after := #[{ on := 25, ground := Go.Ground.data }, { on := 26, ground := Go.Ground.data }, { on := 24, ground := Go.Ground.chain }, { on := 24, ground := Go.Ground.guard }], guard := Option.some (24, Bool.false) }) rfl (fun K hK => ?_) AllReadyH.nil
            go_simp
            refine (once_any l f bt B1 g1 B2 g2 _ _ hHeld.mem hHeld.ref HT.out HOK.out HH.out).mono ?_
            rintro e W27 ⟨rfl, hB⟩
            refine hK.out _ _ ?_ (fun hHeld => ?_)
            · (try dsimp only); exact SSt.later hHeld hB
            clear hK K
            try simp only [Act.put, List.setIfInBounds_toArray, List.set_cons_zero, List.set_cons_succ]
            refine wpAnyH_take (i := 28) (oi := { dst := Option.some 174, op := Go.Op.unOp Go.UnOp.not 4 (Go.Operand.tmp 173), type := 4, pos := "law.go:140", after := #[{ on := 27, ground := Go.Ground.data }, { on := 24, ground := Go.Ground.guard }], guard := Option.some (24, Bool.false) }) (v := ?_) rfl (by kernel_rfl) (by kernel_rfl) (by kernel_rfl) (fun _ _ _ h => h) (Or.inl ⟨by rfl, ?_⟩) (by assumption) ?_
            rotate_left
            · (intro w hSw; (try dsimp only at hSw); go_simp; try with_reducible rfl)
            try simp only [Act.put, List.setIfInBounds_toArray, List.set_cons_zero, List.set_cons_succ]
            refine wpAnyH_take (i := 29) (oi := { dst := Option.some 175, op := Go.Op.pick (Go.Operand.tmp 170) (Go.Operand.const (Go.Value.bool Bool.true)) (Go.Operand.tmp 174), type := 4, pos := "law.go:140", after := #[{ on := 24, ground := Go.Ground.data }, { on := 28, ground := Go.Ground.data }], guard := Option.none }) (v := ?_) rfl (by kernel_rfl) (by kernel_rfl) (by kernel_rfl) (fun _ _ _ h => h) (Or.inl ⟨by rfl, ?_⟩) (by assumption) ?_
            rotate_left
            · (intro w hSw; (try dsimp only at hSw); go_simp; try with_reducible rfl)
            try simp only [Act.put, List.setIfInBounds_toArray, List.set_cons_zero, List.set_cons_succ]
            refine wpAnyH_done (by kernel_rfl) ?_ _
            have HL0 := Lib.hid (hHeld.start HOK.out)
            clear HS hHeld
            go_wp2_with fail
            go_loopw [29] (fun i wr => ∃ k : Nat, i = .int .i64 k ∧ k ≤ l.length ∧ Hid (LInv w l f bt B1 g1 B2 g2 go wr)) (fun i _ => l.length - (intOf i).toNat)
            case atStart => exact ⟨0, rfl, Nat.zero_le _, HL0⟩
            case round =>
              obtain ⟨k, rfl, hk, hL⟩ := hrel
              clear HL0
              by_cases hlt : k < l.length
              · obtain ⟨gr, d, n, y, k1, k2, k3, k4, k5, k6⟩ := hL.out.rows k hlt
                have i0 : (0 : Int) ≤ (k : Int) := by omega
                have i1 : (k : Int) < (l.length : Int) := by omega
                have n1 : (0 : Int) < (n : Int) := by omega
                have HP := Lib.hid (fun z => hL.out.put k1g k2g kwg k3 z)
                have HP2 := Lib.hid (fun z => (hL.out.later (Below.refl _ _).drew).put k1g k2g kwg k3 z)
                go_wp2_with fail
                go_region
                all_goals
                  go_wp2_with fail
                  go_roundw
                  case rel => exact ⟨k + 1, by go_num, by omega, Lib.hid (by first | exact HP.out _ | exact (HP.out _).later (Below.refl _ _).drew | exact HP2.out _)⟩
                  case measure => simp [intOf]; omega
              · obtain rfl : k = l.length := by omega
                have HM := Lib.hid hL.out.mem
                have HR := Lib.hid hL.out.ref
                have HB := Lib.hid hL.out.bel
                go_wp2_with fail
                refine (wordsV_any l f B1 g1 _ HM.out HOK.out hl16).mono ?_
                rintro e w6 ⟨⟨rfl, hO⟩, hgo', hB⟩
                have HRR := Lib.hid (RRows.of (by simp [wordsL]) hO.toU hgo')
                replace HR := Lib.hid (HR.out.later hB)
                replace HB := Lib.hid (HB.out.trans (hB.mono HB.out.size))
                clear hO hgo' hB HM hL
                go_wp2_with fail
                refine (refWords_any l _ B2 g2 _ HR.out HOK.out hl16).mono ?_
                rintro e w7 ⟨⟨v2, rfl, hv2⟩, hB⟩
                rw [words_rel HT.out HB8.out HBD.out HOK.out] at hv2
                replace HRR := Lib.hid (HRR.out.later hB)
                have HRV := Lib.hid hv2
                replace HB := Lib.hid (HB.out.trans (hB.mono HB.out.size))
                clear hv2 hB HR
                go_wp2_with fail
                refine (sameWords_eq _ _ v2 _ HRR.out HRV.out (by simp [wordsL]; omega) (wordsL_small HOK.out)).mono ?_
                rintro e w8 ⟨rfl, hB⟩
                replace HB := Lib.hid (HB.out.trans (hB.mono HB.out.size))
                clear hB HRR HRV
                go_wp2_with fail
                refine (known_any _).mono ?_
                rintro e w9 ⟨rfl, hB⟩
                replace HB := Lib.hid (HB.out.trans (hB.mono HB.out.size))
                clear hB
                go_wp2_with fail
                go_ret
                exact ⟨rfl, HB.out⟩
end Go.Proofs.Ytajjpaabkdgjbaa
