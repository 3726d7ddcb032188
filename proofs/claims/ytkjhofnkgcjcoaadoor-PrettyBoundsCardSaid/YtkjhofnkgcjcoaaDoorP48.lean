/- The closed sentence: its walk. -/
import Derived.Test.YtkjhofnkgcjcoaaDoorP40
import Derived.Deep.RegionHeld3
import Derived.Deep.Upon
import Derived.Test.YtkjhofnkgcjcoaaDoorP41
import Derived.Test.YtkjhofnkgcjcoaaDoorP42
import Derived.Test.YtkjhofnkgcjcoaaDoorP43
import Derived.Test.YtkjhofnkgcjcoaaDoorP44
import Derived.Test.YtkjhofnkgcjcoaaDoorP45
import Derived.Test.YtkjhofnkgcjcoaaDoorP46
import Derived.Test.YtkjhofnkgcjcoaaDoorP47
import Derived.Test.YtkjhofnkgcjcoaaDoorP25
namespace Go.Proofs.YtkjhofnkgcjcoaaDoor
open Go.RowKit

theorem one_alloc' (w : World) (o : Obj) : ∃ W, w.alloc o = W ∧ W.heap[w.heap.size]? = some o ∧ Below w.heap.size w W ∧ W.heap.size = w.heap.size + 1 := one_new w o
def nullP : StP := ⟨none, none, none, none, none, none, 0, 0, 0, 0, 0, 0⟩
theorem e63 : exprE (nst 63) = 0 := by
  unfold exprE
  rw [nst_depth, nst_may, if_neg (by simp), if_neg (by rw [nst_text]; omega)]
theorem e64 : exprE (nst 64) = 2 := by
  unfold exprE
  rw [nst_depth, if_pos (.inl (by omega))]
theorem expr_n (k : Nat) (hk : k ≤ 100) (p : Option Addr) (c : Nat) (w : World) (hG : Glob w) (h : (nst k).Ok w w.heap.size p) :
    Calls Tryd.prog 4 #[(nst k).val p c] w fun e w' => (∃ s : ByteArray, e = .returned (.tuple #[.string s, .int .i64 (exprE (nst k) : Int)])) ∧ Below w.heap.size w w' := by
  refine (expr_any (nst k) p c _ w (by have := nst_size k; omega) h (Nat.le_refl _) hG (fun _ => by rw [nst_text]; omega)).mono ?_
  rintro e w' ⟨rfl, hB⟩
  exact ⟨⟨_, rfl⟩, hB⟩
set_option maxRecDepth 100000 in
set_option maxHeartbeats 12800000 in
theorem bounds_any (w : World) (hG : Glob w) : Calls Tryd.prog 3 #[] w fun e w' => e = .returned (.bool true) ∧ Below w.heap.size w w' := by
  have HG := Lib.hid (fun (A : World) (hb : Below w.heap.size w A) => hG.later hb)
  have HD63 := Lib.hid (fun (A : World) => (show Calls Tryd.prog 5 #[.int .i64 63] A fun e w' => ∃ p c, e = .returned ((nst 62).val p c) ∧ (nst 62).Ok w' w'.heap.size p ∧ Below A.heap.size A w' from deep_any 63 (by decide) (by decide) A))
  have HD64 := Lib.hid (fun (A : World) => (show Calls Tryd.prog 5 #[.int .i64 64] A fun e w' => ∃ p c, e = .returned ((nst 63).val p c) ∧ (nst 63).Ok w' w'.heap.size p ∧ Below A.heap.size A w' from deep_any 64 (by decide) (by decide) A))
  have HD65 := Lib.hid (fun (A : World) => (show Calls Tryd.prog 5 #[.int .i64 65] A fun e w' => ∃ p c, e = .returned ((nst 64).val p c) ∧ (nst 64).Ok w' w'.heap.size p ∧ Below A.heap.size A w' from deep_any 65 (by decide) (by decide) A))
  have HEx := Lib.hid (fun (k : Nat) (hk : k ≤ 100) (p : Option Addr) (c : Nat) (A : World) (hb : Below w.heap.size w A) (h : (nst k).Ok A A.heap.size p) => expr_n k hk p c A (HG.out A hb) h)
  have HV := Lib.hid (fun (s : ByteArray) (A : World) => v_any s A)
  have HBw := Lib.hid (Below.refl w.heap.size w)
  clear hG
  go_enter Tryd.func3, Tryd.ntmps3
  go_wp2_with fail
  refine (HD64.out _).mono ?_
  rintro e w1 ⟨p1, c1, rfl, hok1, hB1⟩
  have HX := Lib.hid hok1
  replace HBw := Lib.hid (HBw.out.trans hB1)
  clear hB1 hok1
  go_wp2_with fail
  refine (HEx.out 63 (by decide) p1 c1 _ HBw.out HX.out).mono ?_
  rintro e w2 ⟨⟨s1, he⟩, hB2⟩
  rw [e63] at he
  subst he
  replace HBw := Lib.hid (HBw.out.trans (hB2.mono HBw.out.size))
  clear hB2 HX
  go_wp2_with fail
  refine (HD65.out _).mono ?_
  rintro e w3 ⟨p2, c2, rfl, hok1, hB1⟩
  have HX := Lib.hid hok1
  replace HBw := Lib.hid (HBw.out.trans (hB1.mono HBw.out.size))
  clear hB1 hok1
  go_wp2_with fail
  refine (HEx.out 64 (by decide) p2 c2 _ HBw.out HX.out).mono ?_
  rintro e w4 ⟨⟨s2, he⟩, hB2⟩
  rw [e64] at he
  subst he
  replace HBw := Lib.hid (HBw.out.trans (hB2.mono HBw.out.size))
  clear hB2 HX
  go_wp2_with fail
  refine (HD63.out _).mono ?_
  rintro e w5 ⟨p3, c3, rfl, hok3, hB1⟩
  replace HBw := Lib.hid (HBw.out.trans (hB1.mono HBw.out.size))
  have HO3 := Lib.hid hok3
  clear hB1 hok3

  unfold Ex.val
  obtain ⟨W5, hW5, kW5, hBW5, hsW5⟩ := one_new w5 (.cells #[.int .i64 1, .string ⟨#[120]⟩, .slice none 0 0, .int .i64 (nst 62).op, .int .u64 ((nst 62).word : Int), .string (str (nst 62).name), .slice p3 (nst 62).args.len c3, .int .i64 0, .int .u64 0, .string ⟨#[]⟩, .slice none 0 0, .slice none 0 0, .int .u64 0, .int .u64 0, .slice none 0 0, .slice none 0 0] 35 (0, 0))
  have HW5 := Lib.hid hW5
  clear hW5
  go_upto_region 4 with fail
  rw [HW5.out]
  clear HW5
  have HS5 := Lib.hid (show Below w.heap.size w W5 ∧ W5.heap[w5.heap.size]? = some (.cells #[.int .i64 1, .string ⟨#[120]⟩, .slice none 0 0, .int .i64 (nst 62).op, .int .u64 ((nst 62).word : Int), .string (str (nst 62).name), .slice p3 (nst 62).args.len c3, .int .i64 0, .int .u64 0, .string ⟨#[]⟩, .slice none 0 0, .slice none 0 0, .int .u64 0, .int .u64 0, .slice none 0 0, .slice none 0 0] 35 (0, 0)) ∧ (nst 62).Ok W5 W5.heap.size p3 from ⟨HBw.out.trans (hBW5.mono HBw.out.size), kW5, HO3.out.later hBW5 hBW5.size⟩)
  clear kW5 hBW5 hsW5 HO3 HBw
  generalize w5.heap.size = b5 at *
  go_wp2_with fail
  refine (HD64.out _).mono ?_
  rintro e w6 ⟨p4, c4, rfl, hok4, hB6⟩
  unfold Ex.val
  obtain ⟨W6, hW6, kW6, hBW6, hsW6⟩ := one_new w6 (.cells #[.int .i64 1, .string ⟨#[120]⟩, .slice none 0 0, .int .i64 (nst 63).op, .int .u64 ((nst 63).word : Int), .string (str (nst 63).name), .slice p4 (nst 63).args.len c4, .int .i64 0, .int .u64 0, .string ⟨#[]⟩, .slice none 0 0, .slice none 0 0, .int .u64 0, .int .u64 0, .slice none 0 0, .slice none 0 0] 35 (0, 0))
  have HW6 := Lib.hid hW6
  clear hW6
  go_upto_region 5 with fail
  rw [HW6.out]
  clear HW6
  have HS6 := Lib.hid (show Below W5.heap.size W5 W6 ∧ W6.heap[w6.heap.size]? = some (.cells #[.int .i64 1, .string ⟨#[120]⟩, .slice none 0 0, .int .i64 (nst 63).op, .int .u64 ((nst 63).word : Int), .string (str (nst 63).name), .slice p4 (nst 63).args.len c4, .int .i64 0, .int .u64 0, .string ⟨#[]⟩, .slice none 0 0, .slice none 0 0, .int .u64 0, .int .u64 0, .slice none 0 0, .slice none 0 0] 35 (0, 0)) ∧ (nst 63).Ok W6 W6.heap.size p4 from ⟨hB6.trans (hBW6.mono hB6.size), kW6, hok4.later hBW6 hBW6.size⟩)
  clear kW6 hBW6 hsW6 hok4 hB6
  generalize w6.heap.size = b6 at *
  go_wp2_with fail
  refine (HV.out _ _).mono ?_
  rintro e w7 ⟨rfl, hB7⟩
  obtain ⟨W7, hW7, kW7, hBW7, hsW7⟩ := one_new w7 (.cells #[.int .i64 1, .string ⟨#[120]⟩, .slice none 0 0, .int .i64 2, .int .u64 0, .string ⟨#[121]⟩, .slice none 0 0, .int .i64 0, .int .u64 0, .string ⟨#[]⟩, .slice none 0 0, .slice none 0 0, .int .u64 1, .int .u64 0, .slice none 0 0, .slice none 0 0] 35 (0, 0))
  have HW7 := Lib.hid hW7
  clear hW7
  go_upto_region 6 with fail
  rw [HW7.out]
  clear HW7
  have hq7 := hB7.trans (hBW7.mono hB7.size)
  have hr5 := (hq7.block _ (blk_lt HS6.out.2.1)).trans HS6.out.2.1
  have k56 := (HS6.out.1.block _ (blk_lt HS5.out.2.1)).trans HS5.out.2.1
  have k57 := (hq7.block _ (blk_lt k56)).trans k56
  have hR5 : W7.rangeAt b5 0 (#[.int .i64 1, .string ⟨#[120]⟩, .slice none 0 0, .int .i64 (nst 62).op, .int .u64 ((nst 62).word : Int), .string (str (nst 62).name), .slice p3 (nst 62).args.len c3, .int .i64 0, .int .u64 0, .string ⟨#[]⟩, .slice none 0 0, .slice none 0 0, .int .u64 0, .int .u64 0, .slice none 0 0, .slice none 0 0] : Array Value).toList := range_block k57
  have HS7 := Lib.hid (show Below W6.heap.size W6 W7 ∧ W7.heap[w7.heap.size]? = some (.cells #[.int .i64 1, .string ⟨#[120]⟩, .slice none 0 0, .int .i64 2, .int .u64 0, .string ⟨#[121]⟩, .slice none 0 0, .int .i64 0, .int .u64 0, .string ⟨#[]⟩, .slice none 0 0, .slice none 0 0, .int .u64 1, .int .u64 0, .slice none 0 0, .slice none 0 0] 35 (0, 0)) ∧ W7.rangeAt b5 0 (#[.int .i64 1, .string ⟨#[120]⟩, .slice none 0 0, .int .i64 (nst 62).op, .int .u64 ((nst 62).word : Int), .string (str (nst 62).name), .slice p3 (nst 62).args.len c3, .int .i64 0, .int .u64 0, .string ⟨#[]⟩, .slice none 0 0, .slice none 0 0, .int .u64 0, .int .u64 0, .slice none 0 0, .slice none 0 0] : Array Value).toList ∧ b5 < W7.heap.size from ⟨hq7, kW7, hR5, blk_lt k57⟩)
  clear kW7 hBW7 hsW7 hB7 hq7 hr5 k56 k57 hR5
  generalize w7.heap.size = b7 at *
  refine reg6 (Lib.hid ⟨HS7.out.2.2.1, HS7.out.2.2.2⟩) (fun _ _ _ _ _ h => h) ?_
  intro _ _ _ _ b8 g8 wc HS8
  obtain ⟨W8, hW8, kW8, hBW8, hsW8⟩ := one_new wc (.cells #[.int .i64 4, .string ⟨#[]⟩, .slice none 0 0, .int .i64 0, .int .u64 0, .string ⟨#[]⟩, .slice none 0 0, .int .i64 0, .int .u64 0, .string ⟨#[]⟩, .slice none 0 0, .slice none 0 0, .int .u64 0, .int .u64 0, .slice none 0 0, .slice none 0 0] 35 (0, 0))
  have HW8 := Lib.hid hW8
  clear hW8
  go_upto_region 8 with fail
  rw [HW8.out]
  clear HW8
  obtain ⟨W9, hW9, kW9, hBW9, hsW9⟩ := one_new W8 (.cells #[.int .i64 6, .string ⟨#[102]⟩, .slice none 0 0, .int .i64 0, .int .u64 0, .string ⟨#[]⟩, .slice none 0 0, .int .i64 0, .int .u64 0, .string ⟨#[]⟩, .slice none 0 0, .slice none 0 0, .int .u64 0, .int .u64 0, .slice none 0 0, .slice none 0 0] 35 (0, 0))
  have HW9 := Lib.hid hW9
  clear hW9
  go_upto_region 9 with fail
  rw [HW9.out]
  clear HW9
  obtain ⟨WA, hWA, kWA, hBWA, hsWA⟩ := one_new W9 (.cells #[.string ⟨#[102]⟩, .slice none 0 0, .slice none 0 0, .slice none 0 0, .slice none 0 0] 39 (0, 0))
  have HWA := Lib.hid hWA
  clear hWA
  obtain ⟨WB, hWB, kWB, hBWB, hsWB⟩ := one_new WA (.cells #[.slice none 0 0, .slice (some ⟨wc.heap.size + 1 + 1, 0, none⟩) 1 1] 43 (0, 0))
  have HWB := Lib.hid hWB
  clear hWB
  go_upto_region 10 with fail
  rw [HWA.out]
  clear HWA
  rw [HWB.out]
  clear HWB
  have s9 : W9.heap.size = wc.heap.size + 1 + 1 := by rw [hsW9, hsW8]
  have sA : WA.heap.size = wc.heap.size + 1 + 1 + 1 := by rw [hsWA, s9]
  have q9 := hBW8.trans (hBW9.mono hBW8.size)
  have qA := q9.trans (hBWA.mono q9.size)
  have qB := qA.trans (hBWB.mono qA.size)
  have k8 := (hBWB.block _ (blk_lt ((hBWA.block _ (blk_lt ((hBW9.block _ (blk_lt kW8)).trans kW8))).trans ((hBW9.block _ (blk_lt kW8)).trans kW8)))).trans ((hBWA.block _ (blk_lt ((hBW9.block _ (blk_lt kW8)).trans kW8))).trans ((hBW9.block _ (blk_lt kW8)).trans kW8))
  have k9 := (hBWB.block _ (blk_lt ((hBWA.block _ (blk_lt kW9)).trans kW9))).trans ((hBWA.block _ (blk_lt kW9)).trans kW9)
  have kA := (hBWB.block _ (blk_lt kWA)).trans kWA
  have kB := kWB
  rw [hsW8] at k9
  rw [s9] at kA
  rw [sA] at kB
  have HS9 := Lib.hid (show Below wc.heap.size wc WB ∧ WB.heap.size = wc.heap.size + 1 + 1 + 1 + 1 ∧ WB.heap[wc.heap.size]? = some (.cells #[.int .i64 4, .string ⟨#[]⟩, .slice none 0 0, .int .i64 0, .int .u64 0, .string ⟨#[]⟩, .slice none 0 0, .int .i64 0, .int .u64 0, .string ⟨#[]⟩, .slice none 0 0, .slice none 0 0, .int .u64 0, .int .u64 0, .slice none 0 0, .slice none 0 0] 35 (0, 0)) ∧ WB.heap[wc.heap.size + 1]? = some (.cells #[.int .i64 6, .string ⟨#[102]⟩, .slice none 0 0, .int .i64 0, .int .u64 0, .string ⟨#[]⟩, .slice none 0 0, .int .i64 0, .int .u64 0, .string ⟨#[]⟩, .slice none 0 0, .slice none 0 0, .int .u64 0, .int .u64 0, .slice none 0 0, .slice none 0 0] 35 (0, 0)) ∧ WB.heap[wc.heap.size + 1 + 1]? = some (.cells #[.string ⟨#[102]⟩, .slice none 0 0, .slice none 0 0, .slice none 0 0, .slice none 0 0] 39 (0, 0)) ∧ WB.heap[wc.heap.size + 1 + 1 + 1]? = some (.cells #[.slice none 0 0, .slice (some ⟨wc.heap.size + 1 + 1, 0, none⟩) 1 1] 43 (0, 0)) from ⟨qB, by rw [hsWB, sA], k8, k9, kA, kB⟩)
  clear kW8 hBW8 hsW8 kW9 hBW9 hsW9 kWA hBWA hsWA kWB hBWB hsWB s9 sA q9 qA qB k8 k9 kA kB
  have HL0 := Lib.hid (Lp.start (F := wc.heap.size + 1 + 1) (pb := wc.heap.size + 1 + 1 + 1) (A := WB) (Nat.lt_succ_self _) HS9.out.2.2.2.2.2 HS9.out.2.2.2.2.1)
  have HO9 := Lib.hid (show b8 < wc.heap.size ∧ g8 < wc.heap.size ∧ wc.heap.size < wc.heap.size + 1 ∧ wc.heap.size + 1 < wc.heap.size + 1 + 1 ∧ wc.heap.size + 1 + 1 < wc.heap.size + 1 + 1 + 1 from ⟨blk_lt HS8.out.2.1, blk_lt HS8.out.2.2, by omega, by omega, by omega⟩)
  have HQ := Lib.hid (fun (A : World) (h : Below (wc.heap.size + 1 + 1) WB A) => (show Below wc.heap.size wc A from HS9.out.1.trans (h.mono (by omega))))
  have t6 := HS5.out.1.trans (HS6.out.1.mono HS5.out.1.size)
  have t7 := t6.trans (HS7.out.1.mono t6.size)
  have t8 := t7.trans (HS8.out.1.mono t7.size)
  have HQw := Lib.hid (fun (A : World) (h : Below (wc.heap.size + 1 + 1) WB A) => (show Below w.heap.size w A from t8.trans ((HQ.out A h).mono t8.size)))
  clear t6 t7 t8
  have HMb := Lib.hid (fun (A : World) (h : Below (wc.heap.size + 1 + 1) WB A) => (show (A.heap[b5]? = some (.cells #[.int .i64 1, .string ⟨#[120]⟩, .slice none 0 0, .int .i64 (nst 62).op, .int .u64 ((nst 62).word : Int), .string (str (nst 62).name), .slice p3 (nst 62).args.len c3, .int .i64 0, .int .u64 0, .string ⟨#[]⟩, .slice none 0 0, .slice none 0 0, .int .u64 0, .int .u64 0, .slice none 0 0, .slice none 0 0] 35 (0, 0)) ∧ (nst 62).Ok A A.heap.size p3) ∧ (A.heap[b6]? = some (.cells #[.int .i64 1, .string ⟨#[120]⟩, .slice none 0 0, .int .i64 (nst 63).op, .int .u64 ((nst 63).word : Int), .string (str (nst 63).name), .slice p4 (nst 63).args.len c4, .int .i64 0, .int .u64 0, .string ⟨#[]⟩, .slice none 0 0, .slice none 0 0, .int .u64 0, .int .u64 0, .slice none 0 0, .slice none 0 0] 35 (0, 0)) ∧ (nst 63).Ok A A.heap.size p4) ∧ A.heap[b7]? = some (.cells #[.int .i64 1, .string ⟨#[120]⟩, .slice none 0 0, .int .i64 2, .int .u64 0, .string ⟨#[121]⟩, .slice none 0 0, .int .i64 0, .int .u64 0, .string ⟨#[]⟩, .slice none 0 0, .slice none 0 0, .int .u64 1, .int .u64 0, .slice none 0 0, .slice none 0 0] 35 (0, 0)) ∧ (A.heap[b8]? = some (.cells #[.int .i64 4, .string ⟨#[]⟩, .slice none 0 0, .int .i64 2, .int .u64 0, .string ⟨#[121]⟩, .slice none 0 0, .int .i64 0, .int .u64 0, .string ⟨#[]⟩, .slice none 0 0, .slice none 0 0, .int .u64 0, .int .u64 0, .slice none 0 0, .slice (some ⟨g8, 0, none⟩) 1 1] 35 (0, 0)) ∧ A.heap[g8]? = some (.cells #[.int .i64 1, .string ⟨#[120]⟩, .slice none 0 0, .int .i64 (nst 62).op, .int .u64 ((nst 62).word : Int), .string (str (nst 62).name), .slice p3 (nst 62).args.len c3, .int .i64 0, .int .u64 0, .string ⟨#[]⟩, .slice none 0 0, .slice none 0 0, .int .u64 0, .int .u64 0, .slice none 0 0, .slice none 0 0] 35 (0, 0))) ∧ A.heap[wc.heap.size]? = some (.cells #[.int .i64 4, .string ⟨#[]⟩, .slice none 0 0, .int .i64 0, .int .u64 0, .string ⟨#[]⟩, .slice none 0 0, .int .i64 0, .int .u64 0, .string ⟨#[]⟩, .slice none 0 0, .slice none 0 0, .int .u64 0, .int .u64 0, .slice none 0 0, .slice none 0 0] 35 (0, 0)) ∧ A.heap[wc.heap.size + 1]? = some (.cells #[.int .i64 6, .string ⟨#[102]⟩, .slice none 0 0, .int .i64 0, .int .u64 0, .string ⟨#[]⟩, .slice none 0 0, .int .i64 0, .int .u64 0, .string ⟨#[]⟩, .slice none 0 0, .slice none 0 0, .int .u64 0, .int .u64 0, .slice none 0 0, .slice none 0 0] 35 (0, 0)) from by
    have q8 := HQ.out A h
    have q7 : Below W7.heap.size W7 A := HS8.out.1.trans (q8.mono HS8.out.1.size)
    have q6 : Below W6.heap.size W6 A := HS7.out.1.trans (q7.mono HS7.out.1.size)
    have q5 : Below W5.heap.size W5 A := HS6.out.1.trans (q6.mono HS6.out.1.size)
    have z := HS9.out
    exact ⟨⟨(q5.block _ (blk_lt HS5.out.2.1)).trans HS5.out.2.1, HS5.out.2.2.later q5 q5.size⟩, ⟨(q6.block _ (blk_lt HS6.out.2.1)).trans HS6.out.2.1, HS6.out.2.2.later q6 q6.size⟩, (q7.block _ (blk_lt HS7.out.2.1)).trans HS7.out.2.1,
      ⟨(q8.block _ (blk_lt HS8.out.2.1)).trans HS8.out.2.1, (q8.block _ (blk_lt HS8.out.2.2)).trans HS8.out.2.2⟩, (h.block _ (by omega)).trans z.2.2.1, (h.block _ (by omega)).trans z.2.2.2.1⟩))
  have HLT := Lib.hid (fun (q : Option Addr) (A : World) (hb : Below w.heap.size w A) (hok : longP.Ok A A.heap.size none q) => (show Calls Tryd.prog 8 #[.agg #[.slice none 0 0, .slice q 1 1]] A fun e w' => (∃ s : ByteArray, e = .returned (.tuple #[.string s, .int .i64 3])) ∧ Below A.heap.size A w' from long_any none q 0 1 A (HG.out A hb) hok))
  generalize wc.heap.size + 1 + 1 + 1 = pb at *
  generalize wc.heap.size + 1 + 1 = F at *
  generalize wc.heap.size + 1 = bc at *
  generalize wc.heap.size = bz at *
  go_wp2_with fail
  go_loopw [12] (fun i wr => ∃ (k : Nat) (v : Value), i = .int .i64 k ∧ k ≤ 7000 ∧ Hid (Lp F pb WB wr k v (repC k))) (fun i _ => 7000 - (intOf i).toNat)
  case atStart => exact ⟨0, _, rfl, by omega, HL0⟩
  case round =>
    obtain ⟨k, v, rfl, hk, HL⟩ := hrel
    by_cases hlt : k < 7000
    · have hltI : (k : Int) < 7000 := by omega
      go_wp2_with fail
      go_cut [47] from 46 to 46 (fun t wx => ∃ c : Bool, t = .bool c ∧ Hid (Lp F pb WB wx k v (repC k)))
      case first => as_aux_lemma =>
        go_region
        all_goals go_wp2_with fail
        all_goals go_meet
        all_goals refine ⟨_, rfl, Lib.hid (HL.out.later ?_)⟩
        all_goals repeat (first | exact Below.refl _ _ | refine Below.setCell ?_ (Nat.le_refl _) _ | refine Below.alloc ?_ (Nat.le_refl _) _ | refine Below.drew ?_)
      case rest =>
        obtain ⟨c, rfl, HL1⟩ := hcut
        cases c
        · go_wp2_with fail
          refine reg16 hlt HL1 (fun _ _ _ _ _ h => h) ?_
          intro _ _ _ _ _ _ _ _ _ _ _ _ _ v2 w3 HL3
          go_wp2_with fail
          go_roundw
          case rel => exact ⟨k + 1, v2, by simp, by omega, HL3⟩
          case measure => simp [intOf]; omega
        · go_wp2_with fail
          refine reg14 hlt HL1 (fun _ _ _ _ _ h => h) ?_
          intro _ _ _ _ _ _ _ _ _ g2 cap2 w3 HL3
          have HT := Lib.hid (row_there HL3.out.row)
          have HL4 := Lib.hid (HL3.out.set (repC_len k))
          rw [repC_snoc] at HL4
          go_upto_region 15 with fail
          refine reg15 hlt HT ?_
          intro _
          go_wp2_with fail
          go_roundw
          case rel => exact ⟨k + 1, _, by simp, by omega, HL4⟩
          case measure => simp [intOf]; omega
    · have hk7 : k = 7000 := by omega
      subst hk7
      have q0 : wr.cell? ⟨pb, 0, none⟩ = some (.slice none 0 0) := by simp [World.cell?, HL.out.pg, pgC]
      have q1 : wr.cell? ⟨pb, 1, none⟩ = some (.slice (some ⟨F, 0, none⟩) 1 1) := by simp [World.cell?, HL.out.pg, pgC]
      go_wp2_with fail
      refine (HLT.out _ _ (HQw.out _ HL.out.lo) HL.out.prg).mono ?_
      rintro e w8 ⟨⟨s8, rfl⟩, hB8⟩
      clear q0 q1
      have HB8 := Lib.hid (HL.out.lo.trans (hB8.mono (Nat.le_of_lt (blk_lt HL.out.fn))))
      clear hB8
      go_upto_region 18 with fail
      refine reg18 ?_
      intro _ _ _ _ _ Y3 HY3
      go_upto_region 19 with fail
      refine reg19 ?_
      intro _ _ _ _ _ Y6 HY6
      go_upto_region 20 with fail
      have b36 := HY3.out.1.trans (HY6.out.1.mono HY3.out.1.size)
      have HBY := Lib.hid (show Below F WB Y6 from HB8.out.trans (b36.mono (Nat.le_trans (Nat.le_of_lt (blk_lt HS9.out.2.2.2.2.1)) HB8.out.size)))
      have v1 := (HY6.out.1.block _ (blk_lt HY3.out.2.1)).trans HY3.out.2.1
      have v2 := (HY6.out.1.block _ (blk_lt HY3.out.2.2.1)).trans HY3.out.2.2.1
      have v3 := (HY6.out.1.block _ (blk_lt HY3.out.2.2.2.1)).trans HY3.out.2.2.2.1
      have HP1 := Lib.hid (fun (A : World) (h : Below Y6.heap.size Y6 A) => And.intro ((h.block _ (blk_lt v3)).trans v3) (par_may ((h.block _ (blk_lt v1)).trans v1) ((h.block _ (blk_lt v2)).trans v2)))
      have HP2 := Lib.hid (fun (A : World) (h : Below Y6.heap.size Y6 A) => And.intro ((h.block _ (blk_lt HY6.out.2.2.2.1)).trans HY6.out.2.2.2.1) (wrd_may ((h.block _ (blk_lt HY6.out.2.1)).trans HY6.out.2.1) ((h.block _ (blk_lt HY6.out.2.2.1)).trans HY6.out.2.2.1)))
      clear b36 v1 v2 v3
      have HM := Lib.hid (fun (A : World) (h : Below Y6.heap.size Y6 A) => HMb.out A (HBY.out.trans (h.mono (Nat.le_trans (Nat.le_of_lt (blk_lt HS9.out.2.2.2.2.1)) HBY.out.size))))
      have HGA := Lib.hid (fun (A : World) (h : Below Y6.heap.size Y6 A) => HG.out A (HQw.out A (HBY.out.trans (h.mono (Nat.le_trans (Nat.le_of_lt (blk_lt HS9.out.2.2.2.2.1)) HBY.out.size)))))
      refine reg20 HM HGA HP1 HP2 ?_
      intro _ _ _ _ _ _ _ _ _ _ _ _ _ _ _ _ _ _ _ _ _ _ _ _ _ _ _ _ _ _ _ _ _ _ _ _ _ _ _ _ _ _ _ _ _ _ _ _ _ _ _ _ _ _ _ _ _ _ A HA
      go_wp2_with fail
      have hend := HQw.out _ (HBY.out.trans (HA.out.mono (Nat.le_trans (Nat.le_of_lt (blk_lt HS9.out.2.2.2.2.1)) HBY.out.size)))
      refine bodyPost_ret (v := .bool true) (by simp [results, Tryd.results3, go_sem]) rfl ?_
      exact ⟨rfl, hend⟩
end Go.Proofs.YtkjhofnkgcjcoaaDoor
