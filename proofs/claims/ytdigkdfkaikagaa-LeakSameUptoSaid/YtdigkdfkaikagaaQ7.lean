/- The law on the same: its walk, the body. -/
import Derived.Test.YtdigkdfkaikagaaQ6
import Derived.Test.YtdigkdfkaikagaaF4
import Derived.Deep.CutBlock
import Derived.Deep.CutRange
namespace Go.Proofs.Ytdigkdfkaikagaa
open Go.RowKit
def WL (u : World) (q pi : Option Addr) (n d ci : Nat) : World := (((u.alloc (Obj.cells #[.int .i64 1, .slice q n d, .bool false, .slice none 0 0] 44)).alloc (Obj.cells #[.int .i64 1, .slice pi n ci, .bool false, .slice none 0 0] 44)).alloc (Obj.cells #[.int .i64 1, .slice pi n ci, .bool false, .slice none 0 0] 44))
theorem WL_size (u : World) (q pi : Option Addr) (n d ci : Nat) : (WL u q pi n d ci).heap.size = u.heap.size + 3 := by simp [WL]
theorem WL_bel (u : World) (q pi : Option Addr) (n d ci : Nat) : Below u.heap.size u (WL u q pi n d ci) := by
  unfold WL
  exact ((((Below.refl _ u).alloc (Nat.le_refl _) _).alloc (by simp) _).alloc (by simp; omega) _)
theorem WL_same (xs : List Int) (q pi : Option Addr) (d ci : Nat) (u : World) (hq : Sl u.heap.size q xs.length (Ints u xs)) (hpi : Sl u.heap.size pi xs.length (Ints u xs)) :
    Calls Try.prog 15 #[.slice (some ⟨u.heap.size, 0, none⟩) 1 1, .slice (some ⟨u.heap.size + 1 + 1, 0, none⟩) 1 1] (WL u q pi xs.length d ci) fun e w' => e = .returned (.bool true) ∧ Below u.heap.size u w' := by
  have hb := WL_bel u q pi xs.length d ci
  have h1 := refSame_any (Lf.node 1 xs false .nil .nil) (Lf.node 1 xs false .nil .nil) (some ⟨u.heap.size, 0, none⟩) (some ⟨u.heap.size + 1 + 1, 0, none⟩) 1 1 _ (WL u q pi xs.length d ci)
    (one_in (d := d) (q := q) (by simp [WL, go_sem]) (by simp [WL, go_sem]) (by simp [WL, go_sem]) (by simp [WL, go_sem]) (hq.imp hb.size fun b o hb' ha => Ints.later hb xs b o hb' ha))
    (one_in (d := ci) (q := pi) (by simp [WL, go_sem]) (by simp [WL, go_sem]) (by simp [WL, go_sem]) (by simp [WL, go_sem]) (hpi.imp hb.size fun b o hb' ha => Ints.later hb xs b o hb' ha)) (Nat.le_refl _)
  rw [← Lf.same_true rfl] at h1
  exact h1.mono fun e w' h => ⟨h.1, hb.trans (h.2.mono hb.size)⟩
theorem Given5.fitsA {w : World} {a b : Lf} {s : List S3} {xs : List Int} {pa pb ps pi : Option Addr} {ca cb cs ci : Nat} (G : Given5 w a b s xs pa pb ps pi ca cb cs ci) (w1 : World) (hb : Below w.heap.size w w1) :
    Calls Try.prog 16 #[.slice pa a.len ca] w1 fun e w' => e = .returned (.bool a.shaped) ∧ Below w1.heap.size w1 w' := fits_any a pa ca _ w1 (G.ha.later hb (Nat.le_refl _)) hb.size
theorem Given5.fitsB {w : World} {a b : Lf} {s : List S3} {xs : List Int} {pa pb ps pi : Option Addr} {ca cb cs ci : Nat} (G : Given5 w a b s xs pa pb ps pi ca cb cs ci) (w1 : World) (hb : Below w.heap.size w w1) :
    Calls Try.prog 16 #[.slice pb b.len cb] w1 fun e w' => e = .returned (.bool b.shaped) ∧ Below w1.heap.size w1 w' := fits_any b pb cb _ w1 (G.hb.later hb (Nat.le_refl _)) hb.size
section
variable (a b : Lf) (s : List S3) (n : Int) (xs : List Int) (pa pb ps pi : Option Addr) (ca cb cs ci : Nat) (w : World)
set_option maxRecDepth 100000 in
set_option maxHeartbeats 12800000 in
theorem same_body (G : Given5 w a b s xs pa pb ps pi ca cb cs ci) (hfa : smallB a = true) (hfb : smallB b = true) (hsl : s.length ≤ 3000) (hil : xs.length ≤ 100)  :
    Calls Try.prog 5 #[.slice pa a.len ca, .slice pb b.len cb, .slice ps s.length cs, .int .i64 n, .slice pi xs.length ci] w fun e w' => e = .returned (.bool true) ∧ Below w.heap.size w w' := by
  have HFa := smallB_few a pa ca _ w G.ha (Nat.le_refl _) G.wa
  have HFb := fun (w1 : World) (hb : Below w.heap.size w w1) => smallB_few b pb cb _ w1 (G.hb.later hb (Nat.le_refl _)) hb.size G.wb
  rw [hfa] at HFa
  rw [hfb] at HFb
  replace HFa := Lib.hid HFa
  replace HFb := Lib.hid HFb
  have HPab := Lib.hid (fun (w1 : World) (hb : Below w.heap.size w w1) => leakSame_any a b pa pb ca cb _ w1 (G.ha.later hb (Nat.le_refl _)) (G.hb.later hb (Nat.le_refl _)) hb.size)
  have HRab := Lib.hid (fun (w1 : World) (hb : Below w.heap.size w w1) => refSame_any a b pa pb ca cb _ w1 (G.ha.later hb (Nat.le_refl _)) (G.hb.later hb (Nat.le_refl _)) hb.size)
  have HPaa := fun (w1 : World) (hb : Below w.heap.size w w1) => leakSame_any a a pa pa ca ca _ w1 (G.ha.later hb (Nat.le_refl _)) (G.ha.later hb (Nat.le_refl _)) hb.size
  rw [← Lf.same_true (rfl : a = a)] at HPaa
  replace HPaa := Lib.hid HPaa
  generalize a.same b = vab at HPab HRab
  have HLP := Lib.hid (fun (w1 : World) (hb : Below w.heap.size w w1) => lineP_any xs pi ci _ w1 (G.hi.imp (Nat.le_refl _) fun b o hb' ha => Ints.later hb xs b o hb' ha) hb.size G.ni (by omega))
  have HGI := Lib.hid (fun (w1 : World) (hb : Below w.heap.size w w1) => show Sl w1.heap.size pi xs.length (Ints w1 xs) from G.hi.imp hb.size fun b o hb' ha => Ints.later hb xs b o hb' ha)
  have hls := G.hs.1
  have hlx := G.hi.1
  have hda : a.depth ≤ 60 ∧ a.weight ≤ 3000 := by simp [smallB] at hfa; omega
  have hdb : b.depth ≤ 60 ∧ b.weight ≤ 3000 := by simp [smallB] at hfb; omega
  have HDAB := Lib.hid (And.intro hda hdb)
  have HFL := Lib.hid (show (a.shaped = true → ∀ w1, Below w.heap.size w w1 → _) ∧ (b.shaped = true → ∀ w1, Below w.heap.size w w1 → _) from
    ⟨fun hs w1 hb => Flat_ok a pa ca _ w1 (G.ha.later hb (Nat.le_refl _)) hb.size (check_small (by omega) (by omega) hs), fun hs w1 hb => Flat_ok b pb cb _ w1 (G.hb.later hb (Nat.le_refl _)) hb.size (check_small (by omega) (by omega) hs)⟩)
  clear hda hdb
  have HG := Lib.hid G
  clear G hfa hfb
  go_enter Try.func5, Try.ntmps5
  go_wp2_with fail
  refine HFa.out.mono ?_
  rintro e w1 ⟨rfl, hB1⟩
  have HB := Lib.hid hB1
  clear hB1
  go_wp2_with fail
  refine (HFb.out _ HB.out).mono ?_
  rintro e w2 ⟨rfl, hB2⟩
  replace HB := Lib.hid (HB.out.trans (hB2.mono HB.out.size))
  clear hB2 HFa HFb
  go_wp2_with fail
  refine (HPab.out _ HB.out).mono ?_
  rintro e w3 ⟨rfl, hB2⟩
  replace HB := Lib.hid (HB.out.trans (hB2.mono HB.out.size))
  clear hB2 HPab
  go_wp2_with fail
  refine (HRab.out _ HB.out).mono ?_
  rintro e w4 ⟨rfl, hB2⟩
  replace HB := Lib.hid (HB.out.trans (hB2.mono HB.out.size))
  clear hB2 HRab
  go_wp2_with fail
  refine (HPaa.out _ HB.out).mono ?_
  rintro e w5 ⟨rfl, hB2⟩
  replace HB := Lib.hid (HB.out.trans (hB2.mono HB.out.size))
  clear hB2 HPaa
  go_wp2_with fail
  refine (HLP.out _ HB.out).mono ?_
  rintro e w6 ⟨q, d, rfl, hB2, hq⟩
  replace HB := Lib.hid (HB.out.trans (hB2.mono HB.out.size))
  have HQ := Lib.hid hq
  clear hB2 HLP hq
  go_wp2_with (go_at_call 19; refine (line_any _ _ _ _).mono ?_; rintro e w7 ⟨rfl, rfl⟩)
  refine (WL_same xs q pi d ci w6 HQ.out (HGI.out _ HB.out)).mono ?_
  rintro e w8 ⟨rfl, hB2⟩
  replace HB := Lib.hid (HB.out.trans (hB2.mono HB.out.size))
  clear hB2 HQ
  clear HGI
  go_upto_region 5 with fail
  go_cut [67] from 60 (fun t wx => t = .bool (decide (0 ≤ n) && decide (n ≤ (s.length : Int))) ∧ wx = w8)
  case first =>
    by_cases h0 : 0 ≤ n
    · by_cases h1 : n ≤ (s.length : Int)
      · go_wp2_with fail
        go_meet
        exact ⟨by simp [h0, h1], rfl⟩
      · have h1' : (s.length : Int) < n := by omega
        go_wp2_with fail
        go_meet
        exact ⟨by simp; omega, rfl⟩
    · have h0' : n < 0 := by omega
      go_wp2_with fail
      go_meet
      exact ⟨by simp; omega, rfl⟩
  case rest =>
    obtain ⟨rfl, rfl⟩ := hcut
    generalize hin : (decide (0 ≤ n) && decide (n ≤ (s.length : Int))) = inr
    have HIN := Lib.hid hin
    clear hin
    go_upto_if 67 with fail
    go_cut [] from 68 (fun wx => Hid (Below w.heap.size w wx))
    case first =>
      cases inr with
      | false =>
        go_wp2_with fail
        go_meet
        exact HB
      | true =>
        have hin := HIN.out
        simp at hin
        obtain ⟨k, rfl⟩ : ∃ k : Nat, n = k := ⟨n.toNat, by omega⟩
        have hk : k ≤ s.length := by omega
        have hkc : k ≤ cs := by have := HG.out.hcs; omega
        obtain ⟨T, hT⟩ : ∃ T, T = s.take k := ⟨_, rfl⟩
        have hTl : T.length = k := by rw [hT]; simp; omega
        have HSRC := Src.seen ((HG.out.hs.later HB.out HB.out.size).take k) HG.out.ns
        rw [← hT, hTl] at HSRC
        replace HSRC := Lib.hid HSRC
        have HOWN := Lib.hid (fun (v' : Value) (w' : World) (h : w'.ownsRow wc.heap.size 48 3 v' k (s3Cells T)) => (by have h1 := own_s3 (xs := T) (by rw [hTl]; exact h) (by omega); rw [hTl] at h1; exact h1 : ∃ q d, v' = .slice q k d ∧ S3In w' w'.heap.size T q ∧ k ≤ d ∧ d ≤ maxLen ∧ (0 < k → ∃ g, q = some ⟨g, 0, none⟩ ∧ wc.heap.size ≤ g ∧ ∀ o, w'.frozen? ⟨g, o, none⟩ = false)))
        have HP1 := Lib.hid (fun (q : Option Addr) (d : Nat) (w1 : World) (hb : Below w.heap.size w w1) (hi : S3In w1 w1.heap.size T q) =>
          (by have h1 := prefix_any T s q ps d cs _ w1 hi (HG.out.hs.later hb hb.size) (Nat.le_refl _) HG.out.hcs HG.out.hcm
              rw [hTl, decide_eq_true hT] at h1; exact h1 : Calls Try.prog 20 #[.slice q k d, .slice ps s.length cs] w1 fun e w' => e = .returned (.bool true) ∧ Below w1.heap.size w1 w'))
        have hsk : decide (s = T) = ((k : Int) == (s.length : Int)) := by
          apply bool_of
          rw [decide_eq_true_iff, beq_iff_eq]
          constructor
          · intro h; have := congrArg List.length h; omega
          · intro h; have h : k = s.length := by omega
            rw [hT, h, List.take_length]
        have HP2 := Lib.hid (fun (q : Option Addr) (d : Nat) (w1 : World) (hb : Below w.heap.size w w1) (hi : S3In w1 w1.heap.size T q) (h1 : k ≤ d) (h2 : d ≤ maxLen) =>
          (by have h1 := prefix_any s T ps q cs d _ w1 (HG.out.hs.later hb hb.size) hi (Nat.le_refl _) (by rw [hTl]; exact h1) h2
              rw [hTl, List.take_of_length_le (by omega), hsk] at h1; exact h1 : Calls Try.prog 20 #[.slice ps s.length cs, .slice q k d] w1 fun e w' => e = .returned (.bool ((k : Int) == (s.length : Int))) ∧ Below w1.heap.size w1 w'))
        have HP3 := Lib.hid (fun (q : Option Addr) (d : Nat) (w1 : World) (hb : Below w.heap.size w w1) (hi : S3In w1 w1.heap.size T q) =>
          (by have h1 := sameSeenP_any s T ps q cs d _ w1 (HG.out.hs.later hb hb.size) hi (Nat.le_refl _)
              rw [hTl, hsk] at h1; exact h1 : Calls Try.prog 21 #[.slice ps s.length cs, .slice q k d] w1 fun e w' => e = .returned (.bool ((k : Int) == (s.length : Int))) ∧ Below w1.heap.size w1 w'))
        have HPS := Lib.hid (show ps = none → k = 0 ∧ cs = 0 from fun h => ⟨by rcases HG.out.hs.2 with h0 | ⟨b, o, hq, _⟩ <;> first | omega | (rw [h] at hq; cases hq), HG.out.ns h⟩)
        have HLB := Lib.hid (show 0 + k ≤ maxLen ∧ (0 + k) * 16 ≤ 140737488355328 by unfold maxLen; omega)
        have HB0 := Lib.hid (fun (w' : World) (hg : wc.grownBy w' (Value.ownBlock (.slice none 0 0))) => (Below.refl _ wc).grown hg (Nat.le_refl _) (by simp [Value.ownBlock]))
        have HTL := Lib.hid (And.intro hT hTl)
        obtain ⟨i0, hi, hz0, hz1, hz2⟩ := info_parts info_seen
        have HI := Lib.hid (And.intro hi (And.intro hz0 (And.intro hz1 hz2)))
        clear hin HIN hsk hT hTl hi hz0 hz1 hz2
        cases ps with
        | none =>
          obtain ⟨rfl, rfl⟩ := HPS.out rfl
          clear HPS
          go_wp2_with (at_builtin; refine wpList_append_src rfl _ _ 39 rfl wc.heap.size 48 i0 (.agg #[.bool false, .bool false, .int .u64 0]) 3 16 Try.underlying39 HI.out.1 HI.out.2.1 HI.out.2.2.1 HI.out.2.2.2 rfl (by decide) _ 0 [] rfl (World.ownsRow_nil _ _ _ _) (none) 0 0 (s3Cells T) rfl HSRC.out (oneS3 T) HLB.out.1 HLB.out.2 (Nat.le_refl _) ?_; intro v' wt hown hg)
          rw [Nat.zero_add, List.nil_append] at hown
          obtain ⟨q2, d2, rfl, hin2, hd1, hd2, hq2⟩ := HOWN.out _ _ hown
          have HWT := Lib.hid (HB.out.trans ((HB0.out _ hg).mono HB.out.size))
          have HT := Lib.hid hin2
          have HQ2 := Lib.hid hq2
          clear hown hg hin2 HB0 HOWN HSRC HI HLB hq2
          have HD2 := Lib.hid hd2
          unfold maxLen at hd2
          go_wp2_with fail
          refine (HP1.out q2 d2 _ HWT.out HT.out).mono ?_
          rintro e w2 ⟨rfl, hB2⟩
          have HW := Lib.hid hB2
          clear hB2
          have HD1 := Lib.hid hd1
          go_wp2_with fail
          refine (HP2.out q2 d2 _ (HWT.out.trans (HW.out.mono HWT.out.size)) (HT.out.later HW.out HW.out.size) HD1.out HD2.out).mono ?_
          rintro e w3 ⟨rfl, hB2⟩
          replace HW := Lib.hid (HW.out.trans (hB2.mono HW.out.size))
          clear hB2 HP2
          go_wp2_with fail
          refine (HP3.out q2 d2 _ (HWT.out.trans (HW.out.mono HWT.out.size)) (HT.out.later HW.out HW.out.size)).mono ?_
          rintro e w4 ⟨rfl, hB2⟩
          replace HW := Lib.hid (HW.out.trans (hB2.mono HW.out.size))
          clear hB2 HP3
          go_wp2_with fail
          go_meet
          exact Lib.hid (HWT.out.trans (HW.out.mono HWT.out.size))
        | some ad =>
          clear HPS
          by_cases hk0 : 0 < k
          · have hk1 : (0 : Int) < (k : Int) := by omega
            obtain ⟨T0, x, hTx⟩ : ∃ T0 x, T = T0 ++ [x] := ⟨T.dropLast, T.getLast (by intro h; have := HTL.out.2; rw [h] at this; simp at this; omega), (List.dropLast_concat_getLast _).symm⟩
            have hT0 : T0.length = k - 1 := by have := HTL.out.2; rw [hTx] at this; simp at this; omega
            have HTX := Lib.hid (And.intro hTx hT0)
            clear hTx hT0
            have hkm : (0 : Int) ≤ (k : Int) - 1 := by omega
            have hk2 : k - 1 < k := by omega
            go_wp2_with (at_builtin; refine wpList_append_src rfl _ _ 39 rfl wc.heap.size 48 i0 (.agg #[.bool false, .bool false, .int .u64 0]) 3 16 Try.underlying39 HI.out.1 HI.out.2.1 HI.out.2.2.1 HI.out.2.2.2 rfl (by decide) _ 0 [] rfl (World.ownsRow_nil _ _ _ _) (some ad) k cs (s3Cells T) rfl HSRC.out (oneS3 T) HLB.out.1 HLB.out.2 (Nat.le_refl _) ?_; intro v' wt hown hg)
            rw [Nat.zero_add, List.nil_append] at hown
            obtain ⟨q2, d2, rfl, hin2, hd1, hd2, hq2⟩ := HOWN.out _ _ hown
            have HWT := Lib.hid (HB.out.trans ((HB0.out _ hg).mono HB.out.size))
            have HT := Lib.hid hin2
            have HQ2 := Lib.hid hq2
            clear hown hg hin2 HB0 HOWN HSRC HI HLB hq2
            have HD2 := Lib.hid hd2
            unfold maxLen at hd2
            go_wp2_with fail
            refine (HP1.out q2 d2 _ HWT.out HT.out).mono ?_
            rintro e w2 ⟨rfl, hB2⟩
            have HW := Lib.hid hB2
            clear hB2
            have HD1 := Lib.hid hd1
            go_wp2_with fail
            refine (HP2.out q2 d2 _ (HWT.out.trans (HW.out.mono HWT.out.size)) (HT.out.later HW.out HW.out.size) HD1.out HD2.out).mono ?_
            rintro e w3 ⟨rfl, hB2⟩
            replace HW := Lib.hid (HW.out.trans (hB2.mono HW.out.size))
            clear hB2 HP2
            go_wp2_with fail
            refine (HP3.out q2 d2 _ (HWT.out.trans (HW.out.mono HWT.out.size)) (HT.out.later HW.out HW.out.size)).mono ?_
            rintro e w4 ⟨rfl, hB2⟩
            replace HW := Lib.hid (HW.out.trans (hB2.mono HW.out.size))
            clear hB2 HP3
            obtain ⟨g, rfl, hg1, hg2⟩ := HQ2.out hk0
            rcases HT.out.2 with h30 | ⟨g', o', hgo, hgl, hgt⟩
            · have := HTL.out.2; omega
            cases hgo
            rw [HTX.out.1] at hgt
            have hcx := (HW.out.cell hgl).trans (S3At.drop _ _ _ _ hgt).1.2.2
            rw [HTX.out.2, Nat.zero_add] at hcx
            have hfx := fun o => (HW.out.frozen (p := ⟨g, o, none⟩) hgl).trans (hg2 o)
            have hfx2 := hfx ((k - 1) * 3 + 2)
            have HTS := Lib.hid (show S3In (w4.setCell ⟨g, (k - 1) * 3 + 2, none⟩ (.int .u64 (IntKind.u64.wrap (x.z + 1)))) w4.heap.size (T0 ++ [⟨x.a, x.t, IntKind.u64.wrap (x.z + 1)⟩]) (some ⟨g, 0, none⟩) from by
              refine ⟨by have := HTX.out.2; simp; omega, .inr ⟨g, 0, rfl, by have := HW.out.size; omega, ?_⟩⟩
              have h := S3At.set (z := IntKind.u64.wrap (x.z + 1)) T0 0 (S3At.later HW.out _ _ _ hgl hgt)
              rw [HTX.out.2, Nat.zero_add] at h; exact h)
            have HBS := Lib.hid ((HWT.out.trans (HW.out.mono HWT.out.size)).setCell (p := ⟨g, (k - 1) * 3 + 2, none⟩) (Nat.le_trans HB.out.size hg1) (.int .u64 (IntKind.u64.wrap (x.z + 1))))
            have hnT : ¬ T0 ++ [⟨x.a, x.t, IntKind.u64.wrap (x.z + 1)⟩] = s.take k := by
              intro h
              rw [← HTL.out.1, HTX.out.1] at h
              have h2 := List.append_cancel_left h
              injection h2 with h3 _
              exact wrap_ne x.z (S3.eq3.1 h3).2.2
            have hTk : (T0 ++ [(⟨x.a, x.t, IntKind.u64.wrap (x.z + 1)⟩ : S3)]).length = k := by have := HTX.out.2; simp; omega
            have hTsk : (s.take k).length = k := by simp; omega
            have HP4 := Lib.hid (fun (w1 : World) (hb : Below w.heap.size w w1) (hi : S3In w1 w1.heap.size (T0 ++ [⟨x.a, x.t, IntKind.u64.wrap (x.z + 1)⟩]) (some ⟨g, 0, none⟩)) =>
              (by have h1 := prefix_any _ s (some ⟨g, 0, none⟩) (some ad) d2 cs _ w1 hi (HG.out.hs.later hb hb.size) (Nat.le_refl _) HG.out.hcs HG.out.hcm
                  rw [hTk, decide_eq_false hnT] at h1; exact h1 : Calls Try.prog 20 #[.slice (some ⟨g, 0, none⟩) k d2, .slice (some ad) s.length cs] w1 fun e w' => e = .returned (.bool false) ∧ Below w1.heap.size w1 w'))
            have HP5 := Lib.hid (fun (w1 : World) (hb : Below w.heap.size w w1) (hi : S3In w1 w1.heap.size (T0 ++ [⟨x.a, x.t, IntKind.u64.wrap (x.z + 1)⟩]) (some ⟨g, 0, none⟩)) =>
              (by have h1 := sameSeenP_any _ (s.take k) (some ⟨g, 0, none⟩) (some ad) d2 cs _ w1 hi ((HG.out.hs.later hb hb.size).take k) (Nat.le_refl _)
                  rw [hTk, hTsk, decide_eq_false hnT] at h1; exact h1 : Calls Try.prog 21 #[.slice (some ⟨g, 0, none⟩) k d2, .slice (some ad) k cs] w1 fun e w' => e = .returned (.bool false) ∧ Below w1.heap.size w1 w'))
            clear hgt hg1 hg2 hfx hnT hTk hTsk HQ2
            go_wp2_with fail
            refine (HP4.out _ HBS.out (HTS.out.imp (by simp) fun _ _ _ h => h)).mono ?_
            rintro e w7 ⟨rfl, hB2⟩
            have HW7 := Lib.hid hB2
            have HBT := Lib.hid (HBS.out.trans (hB2.mono HBS.out.size))
            clear hB2 HP4 hcx hfx2
            go_wp2_with fail
            refine (HP5.out _ HBT.out (S3In.later (HTS.out.imp (by simp) fun _ _ _ h => h) HW7.out HW7.out.size)).mono ?_
            rintro e w8 ⟨rfl, hB2⟩
            replace HBT := Lib.hid (HBT.out.trans (hB2.mono HBT.out.size))
            clear hB2 HP5
            go_wp2_with fail
            go_meet
            exact HBT
          · obtain rfl : k = 0 := by omega
            go_wp2_with (at_builtin; refine wpList_append_src rfl _ _ 39 rfl wc.heap.size 48 i0 (.agg #[.bool false, .bool false, .int .u64 0]) 3 16 Try.underlying39 HI.out.1 HI.out.2.1 HI.out.2.2.1 HI.out.2.2.2 rfl (by decide) _ 0 [] rfl (World.ownsRow_nil _ _ _ _) (some ad) 0 cs (s3Cells T) rfl HSRC.out (oneS3 T) HLB.out.1 HLB.out.2 (Nat.le_refl _) ?_; intro v' wt hown hg)
            rw [Nat.zero_add, List.nil_append] at hown
            obtain ⟨q2, d2, rfl, hin2, hd1, hd2, hq2⟩ := HOWN.out _ _ hown
            have HWT := Lib.hid (HB.out.trans ((HB0.out _ hg).mono HB.out.size))
            have HT := Lib.hid hin2
            have HQ2 := Lib.hid hq2
            clear hown hg hin2 HB0 HOWN HSRC HI HLB hq2
            have HD2 := Lib.hid hd2
            unfold maxLen at hd2
            go_wp2_with fail
            refine (HP1.out q2 d2 _ HWT.out HT.out).mono ?_
            rintro e w2 ⟨rfl, hB2⟩
            have HW := Lib.hid hB2
            clear hB2
            have HD1 := Lib.hid hd1
            go_wp2_with fail
            refine (HP2.out q2 d2 _ (HWT.out.trans (HW.out.mono HWT.out.size)) (HT.out.later HW.out HW.out.size) HD1.out HD2.out).mono ?_
            rintro e w3 ⟨rfl, hB2⟩
            replace HW := Lib.hid (HW.out.trans (hB2.mono HW.out.size))
            clear hB2 HP2
            go_wp2_with fail
            refine (HP3.out q2 d2 _ (HWT.out.trans (HW.out.mono HWT.out.size)) (HT.out.later HW.out HW.out.size)).mono ?_
            rintro e w4 ⟨rfl, hB2⟩
            replace HW := Lib.hid (HW.out.trans (hB2.mono HW.out.size))
            clear hB2 HP3
            go_wp2_with fail
            go_meet
            exact Lib.hid (HWT.out.trans (HW.out.mono HWT.out.size))
    case rest =>
      have HB1 := Lib.hid hcut.out
      clear HIN HB hcut
      cases hsa : a.shaped with
      | false =>
        have HFA := HG.out.fitsA _ HB1.out
        rw [hsa] at HFA
        replace HFA := Lib.hid HFA
        clear hsa
        go_wp2_with fail
        refine HFA.out.mono ?_
        rintro e w1 ⟨rfl, hB2⟩
        replace HB1 := Lib.hid (HB1.out.trans (hB2.mono HB1.out.size))
        clear hB2
        go_wp2_with fail
        refine (known_any _).mono ?_
        rintro e w9 ⟨rfl, hB9⟩
        have HB9 := Lib.hid (HB1.out.trans (hB9.mono HB1.out.size))
        clear hB9
        go_wp2_with fail
        go_ret
        exact ⟨rfl, HB9.out⟩
      | true =>
        have HFA := HG.out.fitsA _ HB1.out
        rw [hsa] at HFA
        replace HFA := Lib.hid HFA
        have HSA := Lib.hid hsa
        clear hsa
        go_wp2_with fail
        refine HFA.out.mono ?_
        rintro e w1 ⟨rfl, hB2⟩
        replace HB1 := Lib.hid (HB1.out.trans (hB2.mono HB1.out.size))
        clear hB2 HFA
        cases hsb : b.shaped with
        | false =>
          have HFA := HG.out.fitsB _ HB1.out
          rw [hsb] at HFA
          replace HFA := Lib.hid HFA
          clear hsb
          go_wp2_with fail
          refine HFA.out.mono ?_
          rintro e w2 ⟨rfl, hB2⟩
          replace HB1 := Lib.hid (HB1.out.trans (hB2.mono HB1.out.size))
          clear hB2
          go_wp2_with fail
          refine (known_any _).mono ?_
          rintro e w9 ⟨rfl, hB9⟩
          have HB9 := Lib.hid (HB1.out.trans (hB9.mono HB1.out.size))
          clear hB9
          go_wp2_with fail
          go_ret
          exact ⟨rfl, HB9.out⟩
        | true =>
          have HFA := HG.out.fitsB _ HB1.out
          rw [hsb] at HFA
          replace HFA := Lib.hid HFA
          have HSB := Lib.hid hsb
          clear hsb
          go_wp2_with fail
          refine HFA.out.mono ?_
          rintro e w2 ⟨rfl, hB2⟩
          replace HB1 := Lib.hid (HB1.out.trans (hB2.mono HB1.out.size))
          clear hB2 HFA
          go_wp2_with fail
          refine (HFL.out.1 HSA.out _ HB1.out).mono ?_
          rintro e w3 ⟨x, rfl, hB2, hox⟩
          have HX := Lib.hid hox
          have HWX := Lib.hid (HB1.out.trans (hB2.mono HB1.out.size))
          have H2 := Lib.hid hB2
          clear hB2 hox
          go_wp2_with fail
          refine (HFL.out.2 HSB.out _ HWX.out).mono ?_
          rintro e w4 ⟨y, rfl, hB2, hoy⟩
          replace HX := Lib.hid (own_later HX.out hB2)
          have HY := Lib.hid hoy
          replace HWX := Lib.hid (HWX.out.trans (hB2.mono HWX.out.size))
          replace H2 := Lib.hid (H2.out.trans (hB2.mono H2.out.size))
          clear hB2 hoy HFL
          obtain ⟨newsA, hsrA, hoA, hatA⟩ := Src.leak (HG.out.ha.later HWX.out HWX.out.size) HG.out.na
          have HA := Lib.hid (And.intro hsrA (And.intro hoA hatA))
          have HLEN := Lib.hid (show a.len ≤ 3000 ∧ b.len ≤ 3000 from ⟨Nat.le_trans (Lf.len_weight a) HDAB.out.1.2, Nat.le_trans (Lf.len_weight b) HDAB.out.2.2⟩)
          have HB01 := Lib.hid (show 0 + a.len ≤ maxLen ∧ (0 + a.len) * 64 ≤ 140737488355328 by have := HLEN.out; unfold maxLen; omega)
          have HB02 := Lib.hid (show a.len + b.len ≤ maxLen ∧ (a.len + b.len) * 64 ≤ 140737488355328 by have := HLEN.out; unfold maxLen; omega)
          obtain ⟨i0, hi, hz0, hz1, hz2⟩ := info_parts info_leak
          have HI := Lib.hid (And.intro hi (And.intro hz0 (And.intro hz1 hz2)))
          obtain ⟨newsB, hsrB, hoB, hatB⟩ := Src.leak (HG.out.hb.later HWX.out HWX.out.size) HG.out.nb
          have HBB := Lib.hid (And.intro hsrB (And.intro hoB hatB))
          clear hsrA hoA hatA hsrB hoB hatB hi hz0 hz1 hz2
          have HNIL := Lib.hid (fun (w' : World) (hg : w4.grownBy w' (Value.ownBlock (.slice none 0 0))) => (Below.refl _ w4).grown hg (Nat.le_refl _) (by simp [Value.ownBlock]))
          go_wp2_with (first
            | (at_builtin; refine wpList_append_src rfl (.const (.slice none 0 0)) (.tmp 137) 25 rfl w4.heap.size 44 i0 (.agg #[.int .i64 0, .slice none 0 0, .bool false, .slice none 0 0]) 4 64 Try.underlying25 HI.out.1 HI.out.2.1 HI.out.2.2.1 HI.out.2.2.2 rfl (by decide) _ 0 [] rfl (World.ownsRow_nil _ _ _ _) pa a.len ca newsA rfl HA.out.1 HA.out.2.1 HB01.out.1 HB01.out.2 (Nat.le_refl _) ?_; intro v1 wA hown hg; rw [Nat.zero_add, List.nil_append] at hown; have HOA := Lib.hid hown; have HBA := Lib.hid (HNIL.out _ hg); clear hown hg)
            | (at_builtin; refine wpList_append_src rfl (.tmp 138) (.tmp 139) 25 rfl w4.heap.size 44 i0 (.agg #[.int .i64 0, .slice none 0 0, .bool false, .slice none 0 0]) 4 64 Try.underlying25 HI.out.1 HI.out.2.1 HI.out.2.2.1 HI.out.2.2.2 rfl (by decide) v1 a.len newsA rfl HOA.out pb b.len cb newsB rfl (HBB.out.1.later HBA.out) HBB.out.2.1 HB02.out.1 HB02.out.2 HBA.out.size ?_; intro v2 wB hown hg; have HOB := Lib.hid (own_pair HLEN.out HA.out.1.1 HBA.out HOA.out HA.out.2.2 HBB.out.2.2 hown hg); clear hown hg))
          obtain ⟨hBB, q3, d3, rfl, hin3⟩ := HOB.out
          replace HX := Lib.hid (own_later HX.out hBB)
          replace HY := Lib.hid (own_later HY.out hBB)
          replace H2 := Lib.hid (H2.out.trans (hBB.mono H2.out.size))
          have HXB := Lib.hid (fun k hk => (HX.out.lt k hk).2)
          have HC3 := Lib.hid (Flat_ok (a.app b) q3 d3 _ wB hin3 (Nat.le_refl _) (check_small (by rw [Lf.app_depth]; have := HDAB.out; omega) (by rw [Lf.app_weight]; have := HDAB.out; omega) (by rw [Lf.app_shaped, HSA.out, HSB.out]; rfl)))
          clear hBB hin3 HOB HWX HOA HBA HA HBB HI HB01 HB02 HNIL HSA HSB
          refine HC3.out.mono ?_
          rintro e w6 ⟨z, rfl, hB2, hoz⟩
          replace HX := Lib.hid (own_later HX.out hB2)
          replace HY := Lib.hid (own_later HY.out hB2)
          replace H2 := Lib.hid (H2.out.trans (hB2.mono H2.out.size))
          obtain ⟨qz, dz, rfl, hinz, hqz⟩ := own_sn2 hoz (by have h1 := Lf.flat_len (a.app b); rw [Lf.app_weight] at h1; have := HDAB.out; omega)
          have HINZ := Lib.hid (And.intro hinz hqz)
          obtain ⟨py, cy, rfl, hsy⟩ := own_src HY.out
          have HSY := Lib.hid hsy
          have hfl : a.flat.length ≤ 6000 ∧ b.flat.length ≤ 6000 := by have h1 := Lf.flat_len a; have h2 := Lf.flat_len b; have := HDAB.out; omega
          have HFB := Lib.hid (show a.flat.length + b.flat.length ≤ maxLen ∧ (a.flat.length + b.flat.length) * 16 ≤ 140737488355328 by unfold maxLen; omega)
          obtain ⟨fl, hfe⟩ : ∃ fl, fl = a.flat ++ b.flat := ⟨_, rfl⟩
          have HAL := Lib.hid (show fl.length ≤ 1000000 by rw [hfe, List.length_append]; omega)
          have HSM := Lib.hid (show true = snSame fl (a.app b).flat by rw [hfe, Lf.app_flat, snSame_self])
          have HFE := Lib.hid hfe
          clear hfe
          obtain ⟨i0, hi, hz0, hz1, hz2⟩ := info_parts info_seen
          have HI := Lib.hid (And.intro hi (And.intro hz0 (And.intro hz1 hz2)))
          have HGR := Lib.hid (fun (v' : Value) (w' : World) (hown : w'.ownsRow w2.heap.size 48 3 v' (a.flat.length + b.flat.length) (snCells a.flat ++ snCells b.flat)) => (by
            have h := hown
            rw [← List.length_append, ← snCells_app, ← HFE.out] at h
            exact own_sn h HAL.out : ∃ q d, v' = .slice q fl.length d ∧ SnIn w' w'.heap.size fl q))
          have HGW := Lib.hid (fun (w7 : World) (hg : w6.grownBy w7 x.ownBlock) => (⟨H2.out.grown hg H2.out.size fun k hk => (HX.out.lt k hk).1, SnIn_grown HINZ.out.1 HINZ.out.2 hg HXB.out⟩ : Below w2.heap.size w2 w7 ∧ SnIn w7 w7.heap.size (a.app b).flat qz))
          have H2S := Lib.hid H2.out.size
          clear hB2 hoz hinz hqz hsy hfl hi hz0 hz1 hz2 HC3 HG HLEN HDAB HINZ HXB H2
          go_wp2_with (with_reducible refine wpList_append_if (o := ⟨some 157, _, _, _, _, _⟩) ?hw (.tmp 155) (.tmp 156) 39 ?ho w2.heap.size 48 i0 (.agg #[.bool false, .bool false, .int .u64 0]) 3 16 Try.underlying39 HI.out.1 HI.out.2.1 HI.out.2.2.1 HI.out.2.2.2 ?hzs ?hsz x a.flat.length (snCells a.flat) ?hs HX.out py b.flat.length cy (snCells b.flat) ?hx HSY.out (oneSn b.flat) HFB.out.1 HFB.out.2 H2S.out ?hrest)
          case ho => rfl
          case hzs => rfl
          case hsz => decide
          case hs => rfl
          case hx => rfl
          intro v7 w7 hown hg
          obtain ⟨q7, d7, rfl, hin7⟩ := HGR.out _ _ hown
          have HG7 := Lib.hid (HGW.out _ hg)
          have HIN7 := Lib.hid hin7
          clear hown hg hin7
          go_wp2_with fail
          refine (sameSeen_any fl (a.app b).flat q7 qz d7 dz _ w7 HIN7.out HG7.out.2 (Nat.le_refl _)).mono ?_
          rintro e w8 ⟨he, hB2⟩
          rw [← HSM.out] at he
          subst he
          replace HB1 := Lib.hid (HB1.out.trans ((HG7.out.1.trans (hB2.mono HG7.out.1.size)).mono HB1.out.size))
          clear hB2 HIN7 HG7
          go_wp2_with fail
          refine (known_any _).mono ?_
          rintro e w9 ⟨rfl, hB9⟩
          have HB9 := Lib.hid (HB1.out.trans (hB9.mono HB1.out.size))
          clear hB9
          go_wp2_with fail
          go_ret
          exact ⟨rfl, HB9.out⟩

end
end Go.Proofs.Ytdigkdfkaikagaa
