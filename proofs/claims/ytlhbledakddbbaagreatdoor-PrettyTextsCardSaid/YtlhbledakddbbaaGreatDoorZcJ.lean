/- U16, LT as one. -/
import Derived.WalkMore
import Derived.Deep.CutBlock
import Derived.Deep.CutRange
import Derived.Test.YtlhbledakddbbaaGreatDoorZcI
/- The document's Text of any program. -/
namespace Go.Proofs.YtlhbledakddbbaaGreatDoor
open Go.RowKit

theorem fnc_notLn (A : Array Value) : ¬ isLn (.cells A 49 (0, 0)) := by rintro ⟨c, h⟩; exact absurd h (by simp)
theorem prg_notLn (A : Array Value) : ¬ isLn (.cells A 39 (0, 0)) := by rintro ⟨c, h⟩; exact absurd h (by simp)
set_option maxRecDepth 100000 in
set_option maxHeartbeats 6400000 in
theorem rtext_any (x : Prg) (hm : x.may = true) (hfit : x.fit) (hlen : ∀ y ∈ x.lines, y.1 ≤ 1000 ∧ y.2.length ≤ 1000000) (hcnt : x.lines.length ≤ 1000000) (htl : (linesT x.lines).length ≤ 100000000000)
    (p q : Option Addr) (c d N : Nat) (w : World) (hG : Glob w) (hok : x.Ok w N p q) (hN : N ≤ w.heap.size) :
    Calls Tryz.prog 20 #[x.val p q c d] w fun e w' => e = .returned (.string (str (linesT x.lines))) ∧ Below w.heap.size w w' := by
  obtain ⟨rg, fs⟩ := x
  obtain ⟨L, hL⟩ : ∃ L, L = (Prg.mk rg fs).lines := ⟨_, rfl⟩
  unfold Prg.may at hm
  simp only [Bool.and_eq_true] at hm
  have HMr := Lib.hid (List.all_eq_true.1 hm.1)
  have HMf := Lib.hid (List.all_eq_true.1 hm.2)
  have HFr := Lib.hid hfit.1
  have HFf := Lib.hid hfit.2
  have S1 := Lib.hid hok.1
  have S2 := Lib.hid hok.2
  have hr63 : rg.length ≤ 140737488355328 := hok.1.1
  have hf63 : fs.length ≤ 140737488355328 := hok.2.1
  rw [← hL] at hlen hcnt htl ⊢
  have hL2 : L = rg.map (fun r => (0, r.line)) ++ fs.flatMap Fnc.lines := hL
  have HLn := Lib.hid hlen
  have HLE := Lib.hid hL2
  have HTl := Lib.hid htl
  have HNN := Lib.hid hN
  have HG := Lib.hid hG
  unfold Prg.val
  simp only []
  obtain ⟨w1, hw1⟩ : ∃ w1, w.alloc (.cells #[.slice p rg.length c, .slice q fs.length d] 39) = w1 := ⟨_, rfl⟩
  have kp : w1.heap[w.heap.size]? = some (.cells #[.slice p rg.length c, .slice q fs.length d] 39 (0, 0)) := by rw [← hw1]; exact heap_alloc_new w _
  have HB1 := Lib.hid (show Below w.heap.size w w1 by rw [← hw1]; exact (Below.refl _ _).alloc (Nat.le_refl _) _)
  have hz1 : w.heap.size ≤ w1.heap.size := HB1.out.size
  have HP := Lib.hid (fun (w' : World) (hk : KpL w.heap.size w1 w') => show w'.heap[w.heap.size]? = some (.cells #[.slice p rg.length c, .slice q fs.length d] 39 (0, 0)) from hk.block _ _ kp (.inr (prg_notLn _)))
  clear hm hfit hok hL hL2 hlen htl hN hG kp
  go_enter Tryz.func20, Tryz.ntmps20
  go_wp2_with fail
  try rw [hw1]
  clear hw1
  go_loopw [3, 4] (fun out i wr => ∃ (k : Nat) (r : List Rgn) (ls : List (Nat × List UInt8)), i = .int .i64 k ∧ k + r.length = rg.length ∧ ls.length + r.length ≤ 1000000 ∧ Hid (∀ v ∈ r, v ∈ rg) ∧ Hid (∀ b o, p = some ⟨b, o, none⟩ → Row (Rgn.At w) 4 rg b o → Row (Rgn.At w) 4 r b (o + k * 4)) ∧ Hid (L = ls ++ (r.map (fun r => (0, r.line)) ++ fs.flatMap Fnc.lines)) ∧ Hid (LnRow w.heap.size wr ls out) ∧ Hid (KpL w.heap.size w1 wr)) (fun _ i _ => rg.length - (intOf i).toNat)
  case atStart => exact ⟨0, rg, [], rfl, by omega, by have := congrArg List.length HLE.out; simp only [List.length_append, List.length_map, List.length_nil] at this ⊢; omega, Lib.hid fun v h => h, Lib.hid fun b o _ h => by rw [Nat.zero_mul]; exact h, Lib.hid (by rw [HLE.out]; rfl), Lib.hid (LnRow.nil _ _), Lib.hid (KpL.refl _ _)⟩
  case round =>
    obtain ⟨k, r, ls, rfl, hk, hlr, hmem, hat, hE, hown, hK⟩ := hrel
    have kp := HP.out wr hK.out
    have cp0 : wr.cell? ⟨w.heap.size, 0, none⟩ = some (.slice p rg.length c) := cell_block kp rfl
    have cp1 : wr.cell? ⟨w.heap.size, 1, none⟩ = some (.slice q fs.length d) := cell_block kp rfl
    have hBw := Lib.hid (HB1.out.trans (hK.out.below hz1))
    cases r with
    | cons v r =>
      simp only [List.length_cons] at hk hlr
      have hlt : k < rg.length := by omega
      rcases S1.out.2 with h30 | ⟨b, o, rfl, hb, ha⟩
      · omega
      obtain ⟨hx, hr⟩ := hat.out b o rfl ha
      have HR := Lib.hid hr
      obtain ⟨g0, g1, g2, g3⟩ := Rgn.At.later (hBw.out.mono HNN.out) v b _ hb hx
      have hv := hmem.out v (by simp)
      have hmv := HMr.out v hv
      have hfv := HFr.out v hv
      have hln := (HLn.out (0, v.line) (by rw [hE.out]; simp)).2
      have HE := Lib.hid (show L = (ls ++ [(0, v.line)]) ++ (r.map (fun r => (0, r.line)) ++ fs.flatMap Fnc.lines) by rw [hE.out]; simp)
      have HMm := Lib.hid (fun y (hy : y ∈ r) => hmem.out y (List.mem_cons_of_mem _ hy))
      obtain ⟨nm, ad, sz, sc⟩ := v
      unfold Rgn.may at hmv
      simp only [Bool.and_eq_true, decide_eq_true_eq] at hmv
      obtain ⟨_, had, hsz⟩ := hmv
      obtain ⟨⟨_, hau⟩, _, hsu⟩ := hfv
      simp only [] at had hsz hau hsu g0 g1 g2 g3
      obtain ⟨DA, hDA⟩ : ∃ D, D = Lib.decDigits ad.toNat := ⟨_, rfl⟩
      obtain ⟨DS, hDS⟩ : ∃ D, D = Lib.decDigits sz.toNat := ⟨_, rfl⟩
      have hline : (Rgn.mk nm ad sz sc).line = [114, 101, 103, 105, 111, 110, 32] ++ nm ++ [32] ++ DA ++ [32] ++ DS ++ secT sc ++ [59] := by rw [hDA, hDS]; rfl
      obtain ⟨LN, hLN⟩ : ∃ l, (Rgn.mk nm ad sz sc).line = l := ⟨_, rfl⟩
      rw [hLN] at HE hln hline
      rw [hline] at hln
      simp only [List.length_append, List.length_cons, List.length_nil] at hln
      obtain ⟨W1, hW1⟩ : ∃ W1, wr.alloc (.cells #[.string (str nm), .int .i64 ad, .int .i64 sz, .bool sc] 77) = W1 := ⟨_, rfl⟩
      have hB1 : Below wr.heap.size wr W1 := by rw [← hW1]; exact (Below.refl _ _).alloc (Nat.le_refl _) _
      have hws : wr.heap.size < W1.heap.size := by rw [← hW1]; simp
      have hkr : W1.heap[wr.heap.size]? = some (.cells #[.string (str nm), .int .i64 ad, .int .i64 sz, .bool sc] 77 (0, 0)) := by rw [← hW1]; exact heap_alloc_new wr _
      have HGw := Lib.hid (HG.out.later (hBw.out.trans (hB1.mono hBw.out.size)))
      have HOW := Lib.hid (hown.out.later hB1)
      have HKW := Lib.hid (hK.out.trans (KpL.of_below (B := w.heap.size) hB1))
      have hzw : w.heap.size ≤ W1.heap.size := by have := hBw.out.size; omega
      have HAd := Lib.hid (fun (w' : World) (hB : Below W1.heap.size W1 w') => itoa_any ad had hau w' (HGw.out.later hB))
      have HSz := Lib.hid (fun (w' : World) (hB : Below W1.heap.size W1 w') => itoa_any sz hsz hsu w' (HGw.out.later hB))
      rw [← hDA] at HAd
      rw [← hDS] at HSz
      have hlsl : ls.length ≤ 1000000 := by omega
      obtain ⟨NM, hNM⟩ : ∃ A, A = str (nm) := ⟨_, rfl⟩
      obtain ⟨A0, hA0⟩ : ∃ A, A = str (DA) := ⟨_, rfl⟩
      obtain ⟨A1, hA1⟩ : ∃ A, A = str (DS) := ⟨_, rfl⟩
      obtain ⟨A2, hA2⟩ : ∃ A, A = str (secT sc) := ⟨_, rfl⟩
      have HSc : ∀ w : World, Calls Tryz.prog 57 #[.bool sc] w fun e w' => e = .returned (.string A2) ∧ w = w' := fun w => by rw [hA2]; exact rsecret_any sc w
      have HSec := Lib.hid HSc
      rw [← hNM] at hkr g0 hW1
      rw [← hA0] at HAd
      rw [← hA1] at HSz
      have hkr0 := Lib.hid hkr
      have x0 : W1.cell? ⟨wr.heap.size, 0, none⟩ = some (.string NM) := cell_block hkr rfl
      have x1 : W1.cell? ⟨wr.heap.size, 1, none⟩ = some (.int .i64 ad) := cell_block hkr rfl
      have x2 : W1.cell? ⟨wr.heap.size, 2, none⟩ = some (.int .i64 sz) := cell_block hkr rfl
      have x3 : W1.cell? ⟨wr.heap.size, 3, none⟩ = some (.bool sc) := cell_block hkr rfl
      obtain ⟨B3, hB3⟩ : ∃ B, B = str ([114, 101, 103, 105, 111, 110, 32] ++ nm) := ⟨_, rfl⟩
      obtain ⟨B4, hB4⟩ : ∃ B, B = str ([114, 101, 103, 105, 111, 110, 32] ++ nm ++ [32]) := ⟨_, rfl⟩
      obtain ⟨B8, hB8⟩ : ∃ B, B = str ([114, 101, 103, 105, 111, 110, 32] ++ nm ++ [32] ++ DA) := ⟨_, rfl⟩
      obtain ⟨B9, hB9⟩ : ∃ B, B = str ([114, 101, 103, 105, 111, 110, 32] ++ nm ++ [32] ++ DA ++ [32]) := ⟨_, rfl⟩
      obtain ⟨B13, hB13⟩ : ∃ B, B = str ([114, 101, 103, 105, 111, 110, 32] ++ nm ++ [32] ++ DA ++ [32] ++ DS) := ⟨_, rfl⟩
      obtain ⟨B17, hB17⟩ : ∃ B, B = str ([114, 101, 103, 105, 111, 110, 32] ++ nm ++ [32] ++ DA ++ [32] ++ DS ++ secT sc) := ⟨_, rfl⟩
      obtain ⟨B18, hB18⟩ : ∃ B, B = str ([114, 101, 103, 105, 111, 110, 32] ++ nm ++ [32] ++ DA ++ [32] ++ DS ++ secT sc ++ [59]) := ⟨_, rfl⟩
      have qB3 : ∀ w : World, (Op.stringOp .add ⟨#[114, 101, 103, 105, 111, 110, 32]⟩ NM).run Tryz.prog w = .ok (.string B3) w := fun w => by
        (try rw [hB3]); (try rw [hNM]); exact add_str ([114, 101, 103, 105, 111, 110, 32]) (nm) (by (try simp only [List.length_cons, List.length_nil]); omega) w
      have qB4 : ∀ w : World, (Op.stringOp .add B3 ⟨#[32]⟩).run Tryz.prog w = .ok (.string B4) w := fun w => by
        (try rw [hB4]); (try rw [hB3]); exact add_str ([114, 101, 103, 105, 111, 110, 32] ++ nm) ([32]) (by (try simp only [List.length_append, List.length_cons, List.length_nil]); omega) w
      have qB8 : ∀ w : World, (Op.stringOp .add B4 A0).run Tryz.prog w = .ok (.string B8) w := fun w => by
        (try rw [hB8]); (try rw [hB4]); (try rw [hA0]); exact add_str ([114, 101, 103, 105, 111, 110, 32] ++ nm ++ [32]) (DA) (by (try simp only [List.length_append, List.length_cons, List.length_nil]); omega) w
      have qB9 : ∀ w : World, (Op.stringOp .add B8 ⟨#[32]⟩).run Tryz.prog w = .ok (.string B9) w := fun w => by
        (try rw [hB9]); (try rw [hB8]); exact add_str ([114, 101, 103, 105, 111, 110, 32] ++ nm ++ [32] ++ DA) ([32]) (by (try simp only [List.length_append, List.length_cons, List.length_nil]); omega) w
      have qB13 : ∀ w : World, (Op.stringOp .add B9 A1).run Tryz.prog w = .ok (.string B13) w := fun w => by
        (try rw [hB13]); (try rw [hB9]); (try rw [hA1]); exact add_str ([114, 101, 103, 105, 111, 110, 32] ++ nm ++ [32] ++ DA ++ [32]) (DS) (by (try simp only [List.length_append, List.length_cons, List.length_nil]); omega) w
      have qB17 : ∀ w : World, (Op.stringOp .add B13 A2).run Tryz.prog w = .ok (.string B17) w := fun w => by
        (try rw [hB17]); (try rw [hB13]); (try rw [hA2]); exact add_str ([114, 101, 103, 105, 111, 110, 32] ++ nm ++ [32] ++ DA ++ [32] ++ DS) (secT sc) (by (try simp only [List.length_append, List.length_cons, List.length_nil]); omega) w
      have qB18 : ∀ w : World, (Op.stringOp .add B17 ⟨#[59]⟩).run Tryz.prog w = .ok (.string B18) w := fun w => by
        (try rw [hB18]); (try rw [hB17]); exact add_str ([114, 101, 103, 105, 111, 110, 32] ++ nm ++ [32] ++ DA ++ [32] ++ DS ++ secT sc) ([59]) (by (try simp only [List.length_append, List.length_cons, List.length_nil]); omega) w
      have HBL := Lib.hid (show B18 = str LN by rw [hB18, hline])
      clear hNM hA0 hA1 hA2 HSc hB3 hB4 hB8 hB9 hB13 hB17 hB18 hline hLN hln hx hr ha hat hE hmem hown hkr hDA hDS had hsz hau hsu
      go_upto_region 6 with fail
      try rw [hW1]
      clear hW1 g0 g1 g2 g3 kp cp0 cp1
      have HSB : Below W1.heap.size W1 W1.drew := (Below.refl _ _).drew
      refine wp_region_held_drew (S := fun W => W.cell? ⟨wr.heap.size, 0, none⟩ = some (.string NM) ∧ W.cell? ⟨wr.heap.size, 1, none⟩ = some (.int .i64 ad) ∧ W.cell? ⟨wr.heap.size, 2, none⟩ = some (.int .i64 sz) ∧ W.cell? ⟨wr.heap.size, 3, none⟩ = some (.bool sc)) (by kernel_rfl) ?_ (fun hHeld => ?_)
      · exact ⟨(HSB.cell hws).trans x0, (HSB.cell hws).trans x1, (HSB.cell hws).trans x2, (HSB.cell hws).trans x3⟩
      refine wpAnyH_take (i := 0) (oi := ⟨some 27, .move (.tmp 3), 100, "ref.go:311", #[], none⟩) (v := ?_) rfl (by kernel_rfl) (by kernel_rfl) (by kernel_rfl) (fun _ _ _ h => h) (Or.inl ⟨by rfl, ?_⟩) (by assumption) ?_
      rotate_left
      · (intro w hSw; (try dsimp only at hSw); go_simp; try with_reducible rfl)
      try simp only [Act.put, List.setIfInBounds_toArray, List.set_cons_zero, List.set_cons_succ]
      refine wpAnyH_take (i := 1) (oi := ⟨some 28, .fieldAddr 77 (.tmp 5) 0, 0, "ref.go:311", #[], none⟩) (v := ?_) rfl (by kernel_rfl) (by kernel_rfl) (by kernel_rfl) (fun _ _ _ h => h) (Or.inl ⟨by rfl, ?_⟩) (by assumption) ?_
      rotate_left
      · (intro w hSw; (try dsimp only at hSw); go_simp; try with_reducible rfl)
      try simp only [Act.put, List.setIfInBounds_toArray, List.set_cons_zero, List.set_cons_succ]
      refine wpAnyH_take (i := 2) (oi := ⟨some 29, .load 9 (.tmp 28), 9, "ref.go:311", #[⟨1, .data⟩], none⟩) (v := ?_) rfl (by kernel_rfl) (by kernel_rfl) (by kernel_rfl) (fun _ _ _ h => h) (Or.inl ⟨by rfl, ?_⟩) (by assumption) ?_
      rotate_left
      · (intro w hSw; (try dsimp only at hSw); go_simp; try with_reducible rfl)
      try simp only [Act.put, List.setIfInBounds_toArray, List.set_cons_zero, List.set_cons_succ]
      refine wpAnyH_take (i := 3) (oi := ⟨some 30, .binOp .add 9 (.const (.string ⟨#[114, 101, 103, 105, 111, 110, 32]⟩)) (.tmp 29) 9, 9, "ref.go:311", #[⟨2, .data⟩], none⟩) (v := .string B3) rfl (by kernel_rfl) (by kernel_rfl) (by kernel_rfl) (fun _ _ _ h => h) (Or.inl ⟨by rfl, ?_⟩) (by assumption) ?_
      · (intro w hSw; (try dsimp only at hSw); go_simp)
      try simp only [Act.put, List.setIfInBounds_toArray, List.set_cons_zero, List.set_cons_succ]
      refine wpAnyH_take (i := 4) (oi := ⟨some 31, .binOp .add 9 (.tmp 30) (.const (.string ⟨#[32]⟩)) 9, 9, "ref.go:311", #[⟨3, .data⟩], none⟩) (v := .string B4) rfl (by kernel_rfl) (by kernel_rfl) (by kernel_rfl) (fun _ _ _ h => h) (Or.inl ⟨by rfl, ?_⟩) (by assumption) ?_
      · (intro w hSw; (try dsimp only at hSw); go_simp)
      try simp only [Act.put, List.setIfInBounds_toArray, List.set_cons_zero, List.set_cons_succ]
      refine wpAnyH_take (i := 5) (oi := ⟨some 32, .fieldAddr 77 (.tmp 5) 1, 0, "ref.go:311", #[], none⟩) (v := ?_) rfl (by kernel_rfl) (by kernel_rfl) (by kernel_rfl) (fun _ _ _ h => h) (Or.inl ⟨by rfl, ?_⟩) (by assumption) ?_
      rotate_left
      · (intro w hSw; (try dsimp only at hSw); go_simp; try with_reducible rfl)
      try simp only [Act.put, List.setIfInBounds_toArray, List.set_cons_zero, List.set_cons_succ]
      refine wpAnyH_take (i := 6) (oi := ⟨some 33, .load 3 (.tmp 32), 3, "ref.go:311", #[⟨5, .data⟩], none⟩) (v := ?_) rfl (by kernel_rfl) (by kernel_rfl) (by kernel_rfl) (fun _ _ _ h => h) (Or.inl ⟨by rfl, ?_⟩) (by assumption) ?_
      rotate_left
      · (intro w hSw; (try dsimp only at hSw); go_simp; try with_reducible rfl)
      try simp only [Act.put, List.setIfInBounds_toArray, List.set_cons_zero, List.set_cons_succ]
      refine wpAnyH_take (i := 10) (oi := ⟨some 37, .fieldAddr 77 (.tmp 5) 2, 0, "ref.go:311", #[], none⟩) (v := ?_) rfl (by kernel_rfl) (by kernel_rfl) (by kernel_rfl) (fun _ _ _ h => h) (Or.inl ⟨by rfl, ?_⟩) (by assumption) ?_
      rotate_left
      · (intro w hSw; (try dsimp only at hSw); go_simp; try with_reducible rfl)
      try simp only [Act.put, List.setIfInBounds_toArray, List.set_cons_zero, List.set_cons_succ]
      refine wpAnyH_take (i := 11) (oi := ⟨some 38, .load 3 (.tmp 37), 3, "ref.go:311", #[⟨10, .data⟩], none⟩) (v := ?_) rfl (by kernel_rfl) (by kernel_rfl) (by kernel_rfl) (fun _ _ _ h => h) (Or.inl ⟨by rfl, ?_⟩) (by assumption) ?_
      rotate_left
      · (intro w hSw; (try dsimp only at hSw); go_simp; try with_reducible rfl)
      try simp only [Act.put, List.setIfInBounds_toArray, List.set_cons_zero, List.set_cons_succ]
      refine wpAnyH_take (i := 14) (oi := ⟨some 41, .fieldAddr 77 (.tmp 5) 3, 0, "ref.go:311", #[], none⟩) (v := ?_) rfl (by kernel_rfl) (by kernel_rfl) (by kernel_rfl) (fun _ _ _ h => h) (Or.inl ⟨by rfl, ?_⟩) (by assumption) ?_
      rotate_left
      · (intro w hSw; (try dsimp only at hSw); go_simp; try with_reducible rfl)
      try simp only [Act.put, List.setIfInBounds_toArray, List.set_cons_zero, List.set_cons_succ]
      refine wpAnyH_take (i := 15) (oi := ⟨some 42, .load 4 (.tmp 41), 4, "ref.go:311", #[⟨14, .data⟩], none⟩) (v := ?_) rfl (by kernel_rfl) (by kernel_rfl) (by kernel_rfl) (fun _ _ _ h => h) (Or.inl ⟨by rfl, ?_⟩) (by assumption) ?_
      rotate_left
      · (intro w hSw; (try dsimp only at hSw); go_simp; try with_reducible rfl)
      try simp only [Act.put, List.setIfInBounds_toArray, List.set_cons_zero, List.set_cons_succ]
      refine wpAnyH_ready (rs := [7]) (by kernel_rfl) (by simp) ?_
      refine AllReadyH.cons (o := ⟨some 34, .call { callee := .value (.func 56), args := #[.tmp 33], argTypes := #[3] }, 9, "ref.go:311", #[⟨6, .data⟩], none⟩) rfl (fun K hK => ?_) AllReadyH.nil
      go_simp
      refine (HAd.out _ HSB).mono ?_
      rintro z wa ⟨rfl, hB'⟩
      replace HSB := HSB.trans (hB'.mono HSB.size)
      clear hB'
      refine hK.out _ _ ?_ (fun hHeld => ?_)
      · exact ⟨(HSB.cell hws).trans x0, (HSB.cell hws).trans x1, (HSB.cell hws).trans x2, (HSB.cell hws).trans x3⟩
      clear hK K
      try simp only [Act.put, List.setIfInBounds_toArray, List.set_cons_zero, List.set_cons_succ]
      refine wpAnyH_take (i := 8) (oi := ⟨some 35, .binOp .add 9 (.tmp 31) (.tmp 34) 9, 9, "ref.go:311", #[⟨4, .data⟩, ⟨7, .data⟩], none⟩) (v := .string B8) rfl (by kernel_rfl) (by kernel_rfl) (by kernel_rfl) (fun _ _ _ h => h) (Or.inl ⟨by rfl, ?_⟩) (by assumption) ?_
      · (intro w hSw; (try dsimp only at hSw); go_simp)
      try simp only [Act.put, List.setIfInBounds_toArray, List.set_cons_zero, List.set_cons_succ]
      refine wpAnyH_take (i := 9) (oi := ⟨some 36, .binOp .add 9 (.tmp 35) (.const (.string ⟨#[32]⟩)) 9, 9, "ref.go:311", #[⟨8, .data⟩], none⟩) (v := .string B9) rfl (by kernel_rfl) (by kernel_rfl) (by kernel_rfl) (fun _ _ _ h => h) (Or.inl ⟨by rfl, ?_⟩) (by assumption) ?_
      · (intro w hSw; (try dsimp only at hSw); go_simp)
      try simp only [Act.put, List.setIfInBounds_toArray, List.set_cons_zero, List.set_cons_succ]
      refine wpAnyH_ready (rs := [12]) (by kernel_rfl) (by simp) ?_
      refine AllReadyH.cons (o := ⟨some 39, .call { callee := .value (.func 56), args := #[.tmp 38], argTypes := #[3] }, 9, "ref.go:311", #[⟨11, .data⟩, ⟨7, .chain⟩], none⟩) rfl (fun K hK => ?_) AllReadyH.nil
      go_simp
      refine (HSz.out _ HSB).mono ?_
      rintro z wa ⟨rfl, hB'⟩
      replace HSB := HSB.trans (hB'.mono HSB.size)
      clear hB'
      refine hK.out _ _ ?_ (fun hHeld => ?_)
      · exact ⟨(HSB.cell hws).trans x0, (HSB.cell hws).trans x1, (HSB.cell hws).trans x2, (HSB.cell hws).trans x3⟩
      clear hK K
      try simp only [Act.put, List.setIfInBounds_toArray, List.set_cons_zero, List.set_cons_succ]
      refine wpAnyH_take (i := 13) (oi := ⟨some 40, .binOp .add 9 (.tmp 36) (.tmp 39) 9, 9, "ref.go:311", #[⟨9, .data⟩, ⟨12, .data⟩], none⟩) (v := .string B13) rfl (by kernel_rfl) (by kernel_rfl) (by kernel_rfl) (fun _ _ _ h => h) (Or.inl ⟨by rfl, ?_⟩) (by assumption) ?_
      · (intro w hSw; (try dsimp only at hSw); go_simp)
      try simp only [Act.put, List.setIfInBounds_toArray, List.set_cons_zero, List.set_cons_succ]
      refine wpAnyH_ready (rs := [16]) (by kernel_rfl) (by simp) ?_
      refine AllReadyH.cons (o := ⟨some 43, .call { callee := .value (.func 57), args := #[.tmp 42], argTypes := #[4] }, 9, "ref.go:311", #[⟨15, .data⟩, ⟨12, .chain⟩], none⟩) rfl (fun K hK => ?_) AllReadyH.nil
      go_simp
      refine (HSec.out _).mono ?_
      rintro z wb ⟨rfl, rfl⟩
      refine hK.out _ _ ?_ (fun hHeld => ?_)
      · exact ⟨(HSB.cell hws).trans x0, (HSB.cell hws).trans x1, (HSB.cell hws).trans x2, (HSB.cell hws).trans x3⟩
      clear hK K
      try simp only [Act.put, List.setIfInBounds_toArray, List.set_cons_zero, List.set_cons_succ]
      refine wpAnyH_take (i := 17) (oi := ⟨some 44, .binOp .add 9 (.tmp 40) (.tmp 43) 9, 9, "ref.go:311", #[⟨13, .data⟩, ⟨16, .data⟩], none⟩) (v := .string B17) rfl (by kernel_rfl) (by kernel_rfl) (by kernel_rfl) (fun _ _ _ h => h) (Or.inl ⟨by rfl, ?_⟩) (by assumption) ?_
      · (intro w hSw; (try dsimp only at hSw); go_simp)
      try simp only [Act.put, List.setIfInBounds_toArray, List.set_cons_zero, List.set_cons_succ]
      refine wpAnyH_take (i := 18) (oi := ⟨some 45, .binOp .add 9 (.tmp 44) (.const (.string ⟨#[59]⟩)) 9, 9, "ref.go:311", #[⟨17, .data⟩], none⟩) (v := .string B18) rfl (by kernel_rfl) (by kernel_rfl) (by kernel_rfl) (fun _ _ _ h => h) (Or.inl ⟨by rfl, ?_⟩) (by assumption) ?_
      · (intro w hSw; (try dsimp only at hSw); go_simp)
      try simp only [Act.put, List.setIfInBounds_toArray, List.set_cons_zero, List.set_cons_succ]
      refine wpAnyH_take (i := 19) (oi := ⟨some 46, .build 104 #[(0, .const (.int .i64 0)), (1, .tmp 45)], 104, "ref.go:311", #[⟨18, .data⟩], none⟩) (v := ?_) rfl (by kernel_rfl) (by kernel_rfl) (by kernel_rfl) (fun _ _ _ h => h) (Or.inl ⟨by rfl, ?_⟩) (by assumption) ?_
      rotate_left
      · (intro w hSw; (try dsimp only at hSw); go_simp; try with_reducible rfl)
      try simp only [Act.put, List.setIfInBounds_toArray, List.set_cons_zero, List.set_cons_succ]
      refine wpAnyH_ready (rs := [20]) (by kernel_rfl) (by simp) ?_
      refine AllReadyH.cons (o := ⟨some 47, .buildSlice 100 1 #[(0, .tmp 46)], 100, "ref.go:311", #[⟨19, .data⟩], none⟩) rfl (fun K hK => ?_) AllReadyH.nil
      go_simp
      replace HSB := HSB.alloc HSB.size (.cells #[.int .i64 0, .string B18] 104 (0, 0))
      refine hK.out _ _ ?_ (fun hHeld => ?_)
      · exact ⟨(HSB.cell hws).trans x0, (HSB.cell hws).trans x1, (HSB.cell hws).trans x2, (HSB.cell hws).trans x3⟩
      clear hK K
      try simp only [Act.put, List.setIfInBounds_toArray, List.set_cons_zero, List.set_cons_succ]
      refine wpAnyH_ready (rs := [21]) (by kernel_rfl) (by simp) ?_
      refine AllReadyH.cons (o := ⟨some 48, .call { callee := .builtin .append, args := #[.tmp 27, .tmp 47], argTypes := #[100, 100] }, 100, "ref.go:311", #[⟨0, .data⟩, ⟨20, .data⟩, ⟨16, .chain⟩], none⟩) rfl (fun K hK => ?_) AllReadyH.nil
      refine step_line (x := (0, LN)) rfl (.tmp 27) (.tmp 47) rfl (by rfl) (HOW.out.later HSB) (Nat.le_trans hzw HSB.size) (Nat.le_trans hlsl (by decide)) wa.heap.size (by rfl) (by simp [go_sem]) (by rw [← HBL.out]; simp [go_sem]) ?_
      rintro v' wc hR' hK'
      have HKz := (HKW.out.trans (KpL.of_below HSB)).trans hK'
      have hq0 : wc.heap[wr.heap.size]? = some (.cells #[.string NM, .int .i64 ad, .int .i64 sz, .bool sc] 77 (0, 0)) := hK'.block _ _ ((HSB.block _ hws).trans hkr0.out) (.inr (by rintro ⟨c, h⟩; exact absurd h (by simp)))
      refine hK.out _ _ ?_ (fun hHeld => ?_)
      · exact ⟨cell_block hq0 rfl, cell_block hq0 rfl, cell_block hq0 rfl, cell_block hq0 rfl⟩
      clear hK K
      try simp only [Act.put, List.setIfInBounds_toArray, List.set_cons_zero, List.set_cons_succ]
      refine wpAnyH_take (i := 22) (oi := ⟨some 3, .assign (.tmp 48), 100, "ref.go:311", #[⟨21, .data⟩, ⟨21, .chain⟩, ⟨0, .phase⟩, ⟨1, .phase⟩, ⟨2, .phase⟩, ⟨3, .phase⟩, ⟨4, .phase⟩, ⟨5, .phase⟩, ⟨6, .phase⟩, ⟨7, .phase⟩, ⟨8, .phase⟩, ⟨9, .phase⟩, ⟨10, .phase⟩, ⟨11, .phase⟩, ⟨12, .phase⟩, ⟨13, .phase⟩, ⟨14, .phase⟩, ⟨15, .phase⟩, ⟨16, .phase⟩, ⟨17, .phase⟩, ⟨18, .phase⟩, ⟨19, .phase⟩, ⟨20, .phase⟩, ⟨21, .phase⟩], none⟩) (v := ?_) rfl (by kernel_rfl) (by kernel_rfl) (by kernel_rfl) (fun _ _ _ h => h) (Or.inl ⟨by rfl, ?_⟩) (by assumption) ?_
      rotate_left
      · (intro w hSw; (try dsimp only at hSw); go_simp; try with_reducible rfl)
      try simp only [Act.put, List.setIfInBounds_toArray, List.set_cons_zero, List.set_cons_succ]
      refine wpAnyH_done (by kernel_rfl) ?_ _
      have HO := Lib.hid hR'
      have HKe := Lib.hid HKz
      clear hR' hK' HKz HSB qB3 qB4 qB8 qB9 qB13 qB17 qB18 x0 x1 x2 x3 hq0
      go_wp2_with fail
      go_roundw
      case rel => exact ⟨k + 1, r, ls ++ [(0, LN)], by go_num, by omega, by simp only [List.length_append, List.length_cons, List.length_nil]; omega, HMm, Lib.hid fun b' o' e _ => by cases e; rw [show o + (k + 1) * 4 = o + k * 4 + 4 by omega]; exact HR.out, HE, HO, HKe⟩
      case measure => simp [intOf]; omega
    | nil =>
      simp only [List.length_nil] at hk hlr
      have hge : ¬ k < rg.length := by omega
      have hE0 : L = ls ++ fs.flatMap Fnc.lines := by rw [hE.out]; rfl
      have HE0 := Lib.hid hE0
      have HO0 := Lib.hid hown.out
      have HK0 := Lib.hid hK.out
      have hlsc : ls.length + (fs.flatMap Fnc.lines).length ≤ 1000000 := by have := congrArg List.length hE0; rw [List.length_append] at this; omega
      clear hE hE0 hown hK hat hmem HMr HFr S1 kp
      go_wp2_with fail
      clear cp0 cp1
      go_loopw [3, 6] (fun out i wr => ∃ (k : Nat) (r : List Fnc) (ls : List (Nat × List UInt8)), i = .int .i64 k ∧ k + r.length = fs.length ∧ ls.length + (r.flatMap Fnc.lines).length ≤ 1000000 ∧ Hid (∀ v ∈ r, v ∈ fs) ∧ Hid (∀ b o, q = some ⟨b, o, none⟩ → Row (Fnc.At w N) 5 fs b o → Row (Fnc.At w N) 5 r b (o + k * 5)) ∧ Hid (L = ls ++ r.flatMap Fnc.lines) ∧ Hid (LnRow w.heap.size wr ls out) ∧ Hid (KpL w.heap.size w1 wr)) (fun _ i _ => fs.length - (intOf i).toNat)
      case atStart => exact ⟨0, fs, ls, rfl, by omega, hlsc, Lib.hid fun v h => h, Lib.hid fun b o _ h => by rw [Nat.zero_mul]; exact h, HE0, HO0, HK0⟩
      case round =>
        clear HO0 HK0 HE0 hlsc hlr ls hBw
        obtain ⟨k2, r, ls, rfl, hk2, hlr, hmem, hat, hE, hown, hK⟩ := hrel
        obtain ⟨wq, rfl⟩ : ∃ wq : World, wq = wr := ⟨_, rfl⟩
        have kp := HP.out wq hK.out
        have cp0 : wq.cell? ⟨w.heap.size, 0, none⟩ = some (.slice p rg.length c) := cell_block kp rfl
        have cp1 : wq.cell? ⟨w.heap.size, 1, none⟩ = some (.slice q fs.length d) := cell_block kp rfl
        have hBw := Lib.hid (HB1.out.trans (hK.out.below hz1))
        cases r with
        | cons f r =>
          simp only [List.length_cons] at hk2
          simp only [List.flatMap_cons, List.length_append] at hlr
          have hlt : k2 < fs.length := by omega
          rcases S2.out.2 with h30 | ⟨b, o, rfl, hb, ha⟩
          · omega
          obtain ⟨hx, hr⟩ := hat.out b o rfl ha
          have HR := Lib.hid hr
          obtain ⟨s, cf, okN⟩ := (Fnc.At.later (hBw.out.mono HNN.out) (Nat.le_refl N) f b _ hb hx).open
          have hf := hmem.out f (by simp)
          have hmf := HMf.out f hf
          have hff := HFf.out f hf
          have hHl := (HLn.out (0, f.head) (by rw [hE.out]; simp [Fnc.lines])).2
          have HVl := Lib.hid (fun v (hv : v ∈ f.vars) => (HLn.out (1, v.line) (by rw [hE.out, List.flatMap_cons]; refine List.mem_append_right _ (List.mem_append_left _ ?_); unfold Fnc.lines; exact List.mem_cons_of_mem _ (List.mem_append_left _ (List.mem_map.2 ⟨v, hv, rfl⟩)))).2)
          have HBl := Lib.hid (fun y (hy : y ∈ f.body.lines 1) => (HLn.out y (by rw [hE.out, List.flatMap_cons]; refine List.mem_append_right _ (List.mem_append_left _ ?_); unfold Fnc.lines; exact List.mem_cons_of_mem _ (List.mem_append_right _ (List.mem_append_left _ hy)))).2)
          have HE := Lib.hid (show L = (ls ++ f.lines) ++ r.flatMap Fnc.lines by rw [hE.out, List.flatMap_cons]; simp only [List.append_assoc])
          have HMm := Lib.hid (fun y (hy : y ∈ r) => hmem.out y (List.mem_cons_of_mem _ hy))
          have hfl : f.lines.length = 1 + (f.vars.length + ((f.body.lines 1).length + 1)) := by unfold Fnc.lines; simp only [List.length_cons, List.length_append, List.length_map, List.length_nil]; omega
          have hbm := (fnc_parts hmf).2.2.2.2
          have hbd := can_deep hmf
          have HVm := Lib.hid (List.all_eq_true.1 (fnc_parts hmf).2.2.1)
          have HVf := Lib.hid hff.2
          obtain ⟨FL, hFL⟩ : ∃ l, l = f.lines := ⟨_, rfl⟩
          rw [← hFL] at HE hfl hlr
          obtain ⟨HDT, hHDT⟩ : ∃ l, l = f.head := ⟨_, rfl⟩
          have hFL2 : FL = ((0, HDT) :: f.vars.map (fun v => (1, v.line))) ++ f.body.lines 1 ++ [(0, [125])] := by rw [hFL, hHDT]; unfold Fnc.lines; simp
          rw [← hHDT] at hHl
          have hHD2 : HDT = [102, 110, 32] ++ f.name ++ [40] ++ Lib.join (f.params.map Vr.param) [44, 32] ++ [41] ++ (if f.rets.length = 0 then [] else [32, 45, 62, 32] ++ Lib.join f.rets [44, 32]) ++ [32, 123] := by rw [hHDT]; unfold Fnc.head; simp
          obtain ⟨nm, ps, vs, rt, bd⟩ := f
          obtain ⟨pp, pv, pr, pb, cp, cv, cr, cb⟩ := s
          simp only [] at okN hHD2 hFL2 HVl HBl hfl hbm hbd HVm HVf
          have f0 : wq.cell? ⟨b, o + k2 * 5, none⟩ = some (.string (str nm)) := cf 0 _ rfl
          have f1 : wq.cell? ⟨b, o + k2 * 5 + 1, none⟩ = some (.slice pp ps.length cp) := cf 1 _ rfl
          have f2 : wq.cell? ⟨b, o + k2 * 5 + 2, none⟩ = some (.slice pv vs.length cv) := cf 2 _ rfl
          have f3 : wq.cell? ⟨b, o + k2 * 5 + 3, none⟩ = some (.slice pr rt.length cr) := cf 3 _ rfl
          have f4 : wq.cell? ⟨b, o + k2 * 5 + 4, none⟩ = some (.slice pb bd.len cb) := cf 4 _ rfl
          have hmp1 : ps.length ≤ 140737488355328 := okN.1.1
          have hmv1 : vs.length ≤ 140737488355328 := okN.2.1.1
          have Sp := Lib.hid okN.1
          have Sv := Lib.hid okN.2.1
          have Sr := Lib.hid okN.2.2.1.2
          have Sb := Lib.hid okN.2.2.2
          obtain ⟨JP, hJP⟩ : ∃ J, J = Lib.join (ps.map Vr.param) [44, 32] := ⟨_, rfl⟩
          obtain ⟨JR, hJR⟩ : ∃ J, J = Lib.join rt [44, 32] := ⟨_, rfl⟩
          rw [← hJP, ← hJR] at hHD2
          have hjl : nm.length + JP.length ≤ 1000000 ∧ (¬ rt.length = 0 → nm.length + JP.length + JR.length ≤ 1000000) := by
            have := hHl; rw [hHD2] at this
            by_cases h0 : rt.length = 0
            · rw [if_pos h0] at this; simp only [List.length_append, List.length_cons, List.length_nil] at this; exact ⟨by omega, fun h => absurd h0 h⟩
            · rw [if_neg h0] at this; simp only [List.length_append, List.length_cons, List.length_nil] at this; exact ⟨by omega, fun _ => by omega⟩
          have HJs := Lib.hid (show ∀ (i : Nat) (t : List UInt8), (ps.map Vr.param)[i]? = some t → t.length ≤ 1000000 from fun i t h => by have := join_mem _ i t h; rw [← hJP] at this; omega)
          have hpl : ps.length ≤ 1000000 := by have := (join_sum (ps.map Vr.param)).2; rw [← hJP, List.length_map] at this; omega
          obtain ⟨W2, hW2⟩ : ∃ W2, wq.alloc (.cells #[.string (str nm), .slice pp ps.length cp, .slice pv vs.length cv, .slice pr rt.length cr, .slice pb bd.len cb] 49) = W2 := ⟨_, rfl⟩
          have hB2 : Below wq.heap.size wq W2 := by rw [← hW2]; exact (Below.refl _ _).alloc (Nat.le_refl _) _
          have hws : wq.heap.size < W2.heap.size := by rw [← hW2]; simp
          have hkf : W2.heap[wq.heap.size]? = some (.cells #[.string (str nm), .slice pp ps.length cp, .slice pv vs.length cv, .slice pr rt.length cr, .slice pb bd.len cb] 49 (0, 0)) := by rw [← hW2]; exact heap_alloc_new wq _
          have hwr : w.heap.size ≤ wq.heap.size := hBw.out.size
          have HF := Lib.hid (fun (w' : World) (hk : KpL w.heap.size W2 w') => show w'.heap[wq.heap.size]? = some (.cells #[.string (str nm), .slice pp ps.length cp, .slice pv vs.length cv, .slice pr rt.length cr, .slice pb bd.len cb] 49 (0, 0)) from hk.block _ _ hkf (.inr (fnc_notLn _)))
          have HB2 := Lib.hid hB2
          have HOW := Lib.hid (hown.out.later hB2)
          have HKW := Lib.hid (hK.out.trans (KpL.of_below (B := w.heap.size) hB2))
          have hzw : w.heap.size ≤ W2.heap.size := by omega
          have hNr : N ≤ wq.heap.size := Nat.le_trans HNN.out hwr
          have HHD := Lib.hid hHD2
          have HFL := Lib.hid hFL2
          have HJP := Lib.hid hJP
          have HJR := Lib.hid hJR
          have hlsl : ls.length ≤ 1000000 := by omega
          clear hx hr ha hat hE hmem hown hK okN cf hff hmf hHDT hFL hJP hJR hFL2 hHD2 hkf hB2
          go_wp2_with fail
          try rw [hW2]
          clear hW2 f0 f1 f2 f3 f4 kp cp0 cp1
          go_loopw [8, 9] (fun out i wx => ∃ (k3 : Nat) (r3 : List Vr) (ts : List (List UInt8)), i = .int .i64 k3 ∧ k3 + r3.length = ps.length ∧ ts.length = k3 ∧ Hid (∀ b o, pp = some ⟨b, o, none⟩ → Row (Vr.At wq) 4 ps b o → Row (Vr.At wq) 4 r3 b (o + k3 * 4)) ∧ Hid (ps.map Vr.param = ts ++ r3.map Vr.param) ∧ Hid (wx.ownsRow W2.heap.size 9 1 out ts.length (strC ts)) ∧ Hid (Below W2.heap.size W2 wx)) (fun _ i _ => ps.length - (intOf i).toNat)
          case atStart => exact ⟨0, ps, [], rfl, by omega, rfl, Lib.hid fun b o _ h => by rw [Nat.zero_mul]; exact h, Lib.hid rfl, Lib.hid (World.ownsRow_nil _ _ _ _), Lib.hid (Below.refl _ _)⟩
          case round =>
            obtain ⟨k3, r3, ts, rfl, hk3, hts, hat, hE, hown, hBx⟩ := hrel
            obtain ⟨wx, rfl⟩ : ∃ wx : World, wx = wr := ⟨_, rfl⟩
            have kf := HF.out wx (KpL.of_below hBx.out)
            have q0 : wx.cell? ⟨wq.heap.size, 0, none⟩ = some (.string (str nm)) := cell_block kf rfl
            have q1 : wx.cell? ⟨wq.heap.size, 1, none⟩ = some (.slice pp ps.length cp) := cell_block kf rfl
            have q3 : wx.cell? ⟨wq.heap.size, 3, none⟩ = some (.slice pr rt.length cr) := cell_block kf rfl
            have hwx : wq.heap.size < wx.heap.size := Nat.lt_of_lt_of_le hws hBx.out.size
            cases r3 with
            | cons v r3 =>
              simp only [List.length_cons] at hk3
              have hlt3 : k3 < ps.length := by omega
              rcases Sp.out.2 with h30 | ⟨bv, ov, rfl, hbv, hav⟩
              · omega
              obtain ⟨hx, hr⟩ := hat.out bv ov rfl hav
              have HRp := Lib.hid hr
              obtain ⟨g0, g1, g2, g3⟩ := Vr.At.later ((HB2.out.mono hNr).trans (hBx.out.mono (Nat.le_trans hNr (Nat.le_of_lt hws)))) v bv _ hbv hx
              have hvl : v.param.length ≤ 1000000 := HJs.out k3 v.param (by rw [hE.out, List.getElem?_append_right (by omega), hts, Nat.sub_self]; rfl)
              have HE3 := Lib.hid (show ps.map Vr.param = (ts ++ [v.param]) ++ r3.map Vr.param by rw [hE.out]; simp)
              have hbx : bv < wx.heap.size := by omega
              unfold Vr.param at hvl HE3
              obtain ⟨vn, vk, vz, sc⟩ := v
              simp only [] at hvl HE3 g0 g3
              simp only [List.length_append] at hvl
              obtain ⟨PT, hPT⟩ : ∃ l, l = vn ++ secT sc := ⟨_, rfl⟩
              rw [← hPT] at HE3
              obtain ⟨VN, hVN⟩ : ∃ A, A = str (vn) := ⟨_, rfl⟩
              obtain ⟨A2, hA2⟩ : ∃ A, A = str (secT sc) := ⟨_, rfl⟩
              obtain ⟨B14, hB14⟩ : ∃ B, B = str (vn ++ secT sc) := ⟨_, rfl⟩
              have qB14 : ∀ w : World, (Op.stringOp .add VN A2).run Tryz.prog w = .ok (.string B14) w := fun w => by
                (try rw [hB14]); (try rw [hVN]); (try rw [hA2]); exact add_str (vn) (secT sc) (by (try simp only [List.length_append, List.length_cons, List.length_nil]); omega) w
              have HSc : ∀ w : World, Calls Tryz.prog 57 #[.bool sc] w fun e w' => e = .returned (.string A2) ∧ w = w' := fun w => by rw [hA2]; exact rsecret_any sc w
              have HSec := Lib.hid HSc
              rw [← hVN] at g0
              have HBL := Lib.hid (show B14 = str PT by rw [hB14, hPT])
              have HOr := Lib.hid hown.out
              have HBr := Lib.hid hBx.out
              clear hVN hA2 HSc hB14 hPT hE hown hBx hat hx hr hav g1 g2 kf q0 q3
              go_upto_region 15 with fail
              have HSB : Below wx.heap.size wx wx.drew := (Below.refl _ _).drew
              refine wp_region_held_drew (S := fun W => W.cell? ⟨wq.heap.size, 1, none⟩ = some (.slice (some ⟨bv, ov, none⟩) ps.length cp) ∧ W.cell? ⟨bv, ov + k3 * 4, none⟩ = some (.string VN) ∧ W.cell? ⟨bv, ov + k3 * 4 + 3, none⟩ = some (.bool sc)) (by kernel_rfl) ?_ (fun hHeld => ?_)
              · exact ⟨(HSB.cell hwx).trans q1, (HSB.cell hbx).trans g0, (HSB.cell hbx).trans g3⟩
              refine wpAnyH_take (i := 0) (oi := ⟨some 68, .move (.tmp 8), 46, "ref.go:317", #[], none⟩) (v := ?_) rfl (by kernel_rfl) (by kernel_rfl) (by kernel_rfl) (fun _ _ _ h => h) (Or.inl ⟨by rfl, ?_⟩) (by assumption) ?_
              rotate_left
              · (intro w hSw; (try dsimp only at hSw); go_simp; try with_reducible rfl)
              try simp only [Act.put, List.setIfInBounds_toArray, List.set_cons_zero, List.set_cons_succ]
              refine wpAnyH_take (i := 1) (oi := ⟨some 69, .fieldAddr 49 (.tmp 7) 1, 0, "ref.go:317", #[], none⟩) (v := ?_) rfl (by kernel_rfl) (by kernel_rfl) (by kernel_rfl) (fun _ _ _ h => h) (Or.inl ⟨by rfl, ?_⟩) (by assumption) ?_
              rotate_left
              · (intro w hSw; (try dsimp only at hSw); go_simp; try with_reducible rfl)
              try simp only [Act.put, List.setIfInBounds_toArray, List.set_cons_zero, List.set_cons_succ]
              refine wpAnyH_take (i := 2) (oi := ⟨some 70, .load 45 (.tmp 69), 45, "ref.go:317", #[⟨1, .data⟩], none⟩) (v := ?_) rfl (by kernel_rfl) (by kernel_rfl) (by kernel_rfl) (fun _ _ _ h => h) (Or.inl ⟨by rfl, ?_⟩) (by assumption) ?_
              rotate_left
              · (intro w hSw; (try dsimp only at hSw); go_simp; try with_reducible rfl)
              try simp only [Act.put, List.setIfInBounds_toArray, List.set_cons_zero, List.set_cons_succ]
              refine wpAnyH_take (i := 3) (oi := ⟨some 71, .move (.tmp 9), 3, "ref.go:317", #[], none⟩) (v := ?_) rfl (by kernel_rfl) (by kernel_rfl) (by kernel_rfl) (fun _ _ _ h => h) (Or.inl ⟨by rfl, ?_⟩) (by assumption) ?_
              rotate_left
              · (intro w hSw; (try dsimp only at hSw); go_simp; try with_reducible rfl)
              try simp only [Act.put, List.setIfInBounds_toArray, List.set_cons_zero, List.set_cons_succ]
              refine wpAnyH_take (i := 4) (oi := ⟨some 72, .indexAddr 45 (.tmp 70) (.tmp 71), 0, "ref.go:317", #[⟨2, .data⟩, ⟨3, .data⟩], none⟩) (v := ?_) rfl (by kernel_rfl) (by kernel_rfl) (by kernel_rfl) (fun _ _ _ h => h) (Or.inl ⟨by rfl, ?_⟩) (by assumption) ?_
              rotate_left
              · (intro w hSw; (try dsimp only at hSw); go_simp; try with_reducible rfl)
              try simp only [Act.put, List.setIfInBounds_toArray, List.set_cons_zero, List.set_cons_succ]
              refine wpAnyH_take (i := 5) (oi := ⟨some 73, .fieldAddr 80 (.tmp 72) 0, 0, "ref.go:317", #[⟨4, .data⟩], none⟩) (v := ?_) rfl (by kernel_rfl) (by kernel_rfl) (by kernel_rfl) (fun _ _ _ h => h) (Or.inl ⟨by rfl, ?_⟩) (by assumption) ?_
              rotate_left
              · (intro w hSw; (try dsimp only at hSw); go_simp; try with_reducible rfl)
              try simp only [Act.put, List.setIfInBounds_toArray, List.set_cons_zero, List.set_cons_succ]
              refine wpAnyH_take (i := 6) (oi := ⟨some 74, .load 9 (.tmp 73), 9, "ref.go:317", #[⟨5, .data⟩], none⟩) (v := ?_) rfl (by kernel_rfl) (by kernel_rfl) (by kernel_rfl) (fun _ _ _ h => h) (Or.inl ⟨by rfl, ?_⟩) (by assumption) ?_
              rotate_left
              · (intro w hSw; (try dsimp only at hSw); go_simp; try with_reducible rfl)
              try simp only [Act.put, List.setIfInBounds_toArray, List.set_cons_zero, List.set_cons_succ]
              refine wpAnyH_take (i := 7) (oi := ⟨some 75, .fieldAddr 49 (.tmp 7) 1, 0, "ref.go:317", #[], none⟩) (v := ?_) rfl (by kernel_rfl) (by kernel_rfl) (by kernel_rfl) (fun _ _ _ h => h) (Or.inl ⟨by rfl, ?_⟩) (by assumption) ?_
              rotate_left
              · (intro w hSw; (try dsimp only at hSw); go_simp; try with_reducible rfl)
              try simp only [Act.put, List.setIfInBounds_toArray, List.set_cons_zero, List.set_cons_succ]
              refine wpAnyH_take (i := 8) (oi := ⟨some 76, .load 45 (.tmp 75), 45, "ref.go:317", #[⟨7, .data⟩], none⟩) (v := ?_) rfl (by kernel_rfl) (by kernel_rfl) (by kernel_rfl) (fun _ _ _ h => h) (Or.inl ⟨by rfl, ?_⟩) (by assumption) ?_
              rotate_left
              · (intro w hSw; (try dsimp only at hSw); go_simp; try with_reducible rfl)
              try simp only [Act.put, List.setIfInBounds_toArray, List.set_cons_zero, List.set_cons_succ]
              refine wpAnyH_take (i := 9) (oi := ⟨some 77, .move (.tmp 9), 3, "ref.go:317", #[], none⟩) (v := ?_) rfl (by kernel_rfl) (by kernel_rfl) (by kernel_rfl) (fun _ _ _ h => h) (Or.inl ⟨by rfl, ?_⟩) (by assumption) ?_
              rotate_left
              · (intro w hSw; (try dsimp only at hSw); go_simp; try with_reducible rfl)
              try simp only [Act.put, List.setIfInBounds_toArray, List.set_cons_zero, List.set_cons_succ]
              refine wpAnyH_take (i := 10) (oi := ⟨some 78, .indexAddr 45 (.tmp 76) (.tmp 77), 0, "ref.go:317", #[⟨8, .data⟩, ⟨9, .data⟩], none⟩) (v := ?_) rfl (by kernel_rfl) (by kernel_rfl) (by kernel_rfl) (fun _ _ _ h => h) (Or.inl ⟨by rfl, ?_⟩) (by assumption) ?_
              rotate_left
              · (intro w hSw; (try dsimp only at hSw); go_simp; try with_reducible rfl)
              try simp only [Act.put, List.setIfInBounds_toArray, List.set_cons_zero, List.set_cons_succ]
              refine wpAnyH_take (i := 11) (oi := ⟨some 79, .fieldAddr 80 (.tmp 78) 3, 0, "ref.go:317", #[⟨10, .data⟩], none⟩) (v := ?_) rfl (by kernel_rfl) (by kernel_rfl) (by kernel_rfl) (fun _ _ _ h => h) (Or.inl ⟨by rfl, ?_⟩) (by assumption) ?_
              rotate_left
              · (intro w hSw; (try dsimp only at hSw); go_simp; try with_reducible rfl)
              try simp only [Act.put, List.setIfInBounds_toArray, List.set_cons_zero, List.set_cons_succ]
              refine wpAnyH_take (i := 12) (oi := ⟨some 80, .load 4 (.tmp 79), 4, "ref.go:317", #[⟨11, .data⟩], none⟩) (v := ?_) rfl (by kernel_rfl) (by kernel_rfl) (by kernel_rfl) (fun _ _ _ h => h) (Or.inl ⟨by rfl, ?_⟩) (by assumption) ?_
              rotate_left
              · (intro w hSw; (try dsimp only at hSw); go_simp; try with_reducible rfl)
              try simp only [Act.put, List.setIfInBounds_toArray, List.set_cons_zero, List.set_cons_succ]
              refine wpAnyH_ready (rs := [13]) (by kernel_rfl) (by simp) ?_
              refine AllReadyH.cons (o := ⟨some 81, .call { callee := .value (.func 57), args := #[.tmp 80], argTypes := #[4] }, 9, "ref.go:317", #[⟨12, .data⟩], none⟩) rfl (fun K hK => ?_) AllReadyH.nil
              go_simp
              refine (HSec.out _).mono ?_
              rintro z wb ⟨rfl, rfl⟩
              refine hK.out _ _ ?_ (fun hHeld => ?_)
              · exact ⟨(HSB.cell hwx).trans q1, (HSB.cell hbx).trans g0, (HSB.cell hbx).trans g3⟩
              clear hK K
              try simp only [Act.put, List.setIfInBounds_toArray, List.set_cons_zero, List.set_cons_succ]
              refine wpAnyH_take (i := 14) (oi := ⟨some 82, .binOp .add 9 (.tmp 74) (.tmp 81) 9, 9, "ref.go:317", #[⟨6, .data⟩, ⟨13, .data⟩], none⟩) (v := .string B14) rfl (by kernel_rfl) (by kernel_rfl) (by kernel_rfl) (fun _ _ _ h => h) (Or.inl ⟨by rfl, ?_⟩) (by assumption) ?_
              · (intro w hSw; (try dsimp only at hSw); go_simp)
              try simp only [Act.put, List.setIfInBounds_toArray, List.set_cons_zero, List.set_cons_succ]
              refine wpAnyH_ready (rs := [15]) (by kernel_rfl) (by simp) ?_
              refine AllReadyH.cons (o := ⟨some 83, .buildSlice 46 1 #[(0, .tmp 82)], 46, "ref.go:317", #[⟨14, .data⟩], none⟩) rfl (fun K hK => ?_) AllReadyH.nil
              go_simp
              replace HSB := HSB.alloc HSB.size (.cells #[.string B14] 9 (0, 0))
              refine hK.out _ _ ?_ (fun hHeld => ?_)
              · exact ⟨(HSB.cell hwx).trans q1, (HSB.cell hbx).trans g0, (HSB.cell hbx).trans g3⟩
              clear hK K
              try simp only [Act.put, List.setIfInBounds_toArray, List.set_cons_zero, List.set_cons_succ]
              refine wpAnyH_ready (rs := [16]) (by kernel_rfl) (by simp) ?_
              refine AllReadyH.cons (o := ⟨some 84, .call { callee := .builtin .append, args := #[.tmp 68, .tmp 83], argTypes := #[46, 46] }, 46, "ref.go:317", #[⟨0, .data⟩, ⟨15, .data⟩, ⟨13, .chain⟩], none⟩) rfl (fun K hK => ?_) AllReadyH.nil
              refine step_text (t := PT) rfl (.tmp 68) (.tmp 83) rfl (by rfl) (own_later HOr.out HSB) (Nat.le_trans HBr.out.size HSB.size) (by omega) wx.drew.heap.size (by rfl) (by rw [← HBL.out]; simp [go_sem]) ?_
              rintro v' wc hR' hK'
              have HSC := HBr.out.trans ((HSB.mono HBr.out.size).trans hK')
              have e1 : wc.cell? ⟨wq.heap.size, 1, none⟩ = some (.slice (some ⟨bv, ov, none⟩) ps.length cp) := (hK'.cell hws).trans ((HSB.cell hwx).trans q1)
              have e2 : wc.cell? ⟨bv, ov + k3 * 4, none⟩ = some (.string VN) := (hK'.cell (Nat.lt_of_lt_of_le hbv (Nat.le_trans hNr (Nat.le_of_lt hws)))).trans ((HSB.cell hbx).trans g0)
              have e3 : wc.cell? ⟨bv, ov + k3 * 4 + 3, none⟩ = some (.bool sc) := (hK'.cell (Nat.lt_of_lt_of_le hbv (Nat.le_trans hNr (Nat.le_of_lt hws)))).trans ((HSB.cell hbx).trans g3)
              refine hK.out _ _ ?_ (fun hHeld => ?_)
              · exact ⟨e1, e2, e3⟩
              clear hK K
              try simp only [Act.put, List.setIfInBounds_toArray, List.set_cons_zero, List.set_cons_succ]
              refine wpAnyH_take (i := 17) (oi := ⟨some 8, .assign (.tmp 84), 46, "ref.go:317", #[⟨16, .data⟩, ⟨16, .chain⟩, ⟨0, .phase⟩, ⟨1, .phase⟩, ⟨2, .phase⟩, ⟨3, .phase⟩, ⟨4, .phase⟩, ⟨5, .phase⟩, ⟨6, .phase⟩, ⟨7, .phase⟩, ⟨8, .phase⟩, ⟨9, .phase⟩, ⟨10, .phase⟩, ⟨11, .phase⟩, ⟨12, .phase⟩, ⟨13, .phase⟩, ⟨14, .phase⟩, ⟨15, .phase⟩, ⟨16, .phase⟩], none⟩) (v := ?_) rfl (by kernel_rfl) (by kernel_rfl) (by kernel_rfl) (fun _ _ _ h => h) (Or.inl ⟨by rfl, ?_⟩) (by assumption) ?_
              rotate_left
              · (intro w hSw; (try dsimp only at hSw); go_simp; try with_reducible rfl)
              try simp only [Act.put, List.setIfInBounds_toArray, List.set_cons_zero, List.set_cons_succ]
              refine wpAnyH_done (by kernel_rfl) ?_ _
              have HO := Lib.hid hR'
              have HBe := Lib.hid HSC
              clear hR' hK' HSB HSC qB14 q1 g0 g3 e1 e2 e3
              go_wp2_with fail
              go_roundw
              case rel => exact ⟨k3 + 1, r3, ts ++ [PT], by go_num, by omega, by simp; omega, Lib.hid fun b' o' e _ => by cases e; rw [show ov + (k3 + 1) * 4 = ov + k3 * 4 + 4 by omega]; exact HRp.out, HE3, HO, HBe⟩
              case measure => simp [intOf]; omega
            | nil =>
              simp only [List.length_nil] at hk3
              have hge3 : ¬ k3 < ps.length := by omega
              have hT : ts = ps.map Vr.param := by have := hE.out; simpa using this.symm
              obtain ⟨qs, ds, rfl, hrow⟩ := own_strs hown.out (by omega)
              have HLj := Lib.hid (rlist_any ts qs ds wx.heap.size wx hrow (by rw [hT, ← HJP.out]; omega))
              rw [hT, ← HJP.out, ← hT] at HLj
              obtain ⟨TL, hTL⟩ : ∃ n, n = ts.length := ⟨_, rfl⟩
              rw [← hTL] at HLj ⊢
              have HLj2 : Hid (∀ w', Below wx.heap.size wx w' → Calls Tryz.prog 58 #[.slice qs TL ds] w' fun e w2 => e = .returned (.string (str JP)) ∧ w' = w2) := Lib.hid (fun w' hb => by
                have h := rlist_any ts qs ds wx.heap.size w' (hrow.imp (Nat.le_refl _) (StrAt.later hb)) (by rw [hT, ← HJP.out]; omega)
                rw [hT, ← HJP.out, ← hT, ← hTL] at h; exact h)
              have hbr : Below wq.heap.size wq wx := HB2.out.trans (hBx.out.mono (Nat.le_of_lt hws))
              have HNs := Lib.hid (fun (w' : World) (hb : Below wx.heap.size wx w') (hj : JR.length ≤ 1000000) => show Calls Tryz.prog 58 #[.slice pr rt.length cr] w' fun e w2 => e = .returned (.string (str JR)) ∧ w' = w2 by
                have h := rlist_any rt pr cr N w' (Sr.out.imp (Nat.le_refl _) (StrAt.later ((hbr.mono hNr).trans (hb.mono (Nat.le_trans hNr hbr.size))))) (by rw [← HJR.out]; exact hj)
                rw [← HJR.out] at h; exact h)
              have HBr := Lib.hid hBx.out
              clear hE hown hat HLj hrow hBx kf hT HJs hbr hTL
              obtain ⟨NM, hNM⟩ : ∃ A, A = str (nm) := ⟨_, rfl⟩
              obtain ⟨TJ, hTJ⟩ : ∃ A, A = str (JP) := ⟨_, rfl⟩
              obtain ⟨TR, hTR⟩ : ∃ A, A = str (JR) := ⟨_, rfl⟩
              obtain ⟨B2, hB2⟩ : ∃ B, B = str ([102, 110, 32] ++ nm) := ⟨_, rfl⟩
              obtain ⟨B3, hB3⟩ : ∃ B, B = str ([102, 110, 32] ++ nm ++ [40]) := ⟨_, rfl⟩
              obtain ⟨B6, hB6⟩ : ∃ B, B = str ([102, 110, 32] ++ nm ++ [40] ++ JP) := ⟨_, rfl⟩
              obtain ⟨B7, hB7⟩ : ∃ B, B = str ([102, 110, 32] ++ nm ++ [40] ++ JP ++ [41]) := ⟨_, rfl⟩
              have qB2 : ∀ w : World, (Op.stringOp .add ⟨#[102, 110, 32]⟩ NM).run Tryz.prog w = .ok (.string B2) w := fun w => by
                (try rw [hB2]); (try rw [hNM]); exact add_str ([102, 110, 32]) (nm) (by (try simp only [List.length_cons, List.length_nil]); omega) w
              have qB3 : ∀ w : World, (Op.stringOp .add B2 ⟨#[40]⟩).run Tryz.prog w = .ok (.string B3) w := fun w => by
                (try rw [hB3]); (try rw [hB2]); exact add_str ([102, 110, 32] ++ nm) ([40]) (by (try simp only [List.length_append, List.length_cons, List.length_nil]); omega) w
              have qB6 : ∀ w : World, (Op.stringOp .add B3 TJ).run Tryz.prog w = .ok (.string B6) w := fun w => by
                (try rw [hB6]); (try rw [hB3]); (try rw [hTJ]); exact add_str ([102, 110, 32] ++ nm ++ [40]) (JP) (by (try simp only [List.length_append, List.length_cons, List.length_nil]); omega) w
              have qB7 : ∀ w : World, (Op.stringOp .add B6 ⟨#[41]⟩).run Tryz.prog w = .ok (.string B7) w := fun w => by
                (try rw [hB7]); (try rw [hB6]); exact add_str ([102, 110, 32] ++ nm ++ [40] ++ JP) ([41]) (by (try simp only [List.length_append, List.length_cons, List.length_nil]); omega) w
              obtain ⟨HP, hHP⟩ : ∃ l, l = [102, 110, 32] ++ nm ++ [40] ++ JP ++ [41] ++ (if rt.length = 0 then [] else [32, 45, 62, 32] ++ JR) := ⟨_, rfl⟩
              obtain ⟨HH, hHH⟩ : ∃ B, B = str HP := ⟨_, rfl⟩
              obtain ⟨BH, hBH⟩ : ∃ B, B = str HDT := ⟨_, rfl⟩
              have hhd : HDT = HP ++ [32, 123] := by rw [HHD.out, hHP]
              have qBH : ∀ w : World, (Op.stringOp .add HH ⟨#[32, 123]⟩).run Tryz.prog w = .ok (.string BH) w := fun w => by
                have hl0 : HP.length + 2 ≤ 1000000 := by have := hHl; rw [hhd] at this; simp only [List.length_append, List.length_cons, List.length_nil] at this; exact this
                rw [hHH, hBH, hhd]; exact add_str HP [32, 123] (by simp only [List.length_cons, List.length_nil]; omega) w
              have HBH := Lib.hid hBH
              have hH0 : rt.length = 0 → HH = B7 := fun h0 => by rw [hHH, hHP, if_pos h0, List.append_nil, hB7]
              have hH1 : ¬ rt.length = 0 → HH = str ([102, 110, 32] ++ nm ++ [40] ++ JP ++ [41] ++ ([32, 45, 62, 32] ++ JR)) := fun h0 => by rw [hHH, hHP, if_neg h0]
              have HB7 := Lib.hid hB7
              have HTR := Lib.hid hTR
              rw [← hNM] at q0
              rw [← hTJ] at HLj2
              rw [← hTR] at HNs
              clear hNM hTJ hTR hB2 hB3 hB6 hB7 hHP hHH hhd hBH
              go_upto_region 16 with fail
              have HSB : Below wx.heap.size wx wx.drew := (Below.refl _ _).drew
              refine wp_region_held_drew (S := fun W => W.cell? ⟨wq.heap.size, 0, none⟩ = some (.string NM)) (by kernel_rfl) ?_ (fun hHeld => ?_)
              · exact (HSB.cell hwx).trans q0
              refine wpAnyH_take (i := 0) (oi := ⟨some 85, .fieldAddr 49 (.tmp 7) 0, 0, "ref.go:319", #[], none⟩) (v := ?_) rfl (by kernel_rfl) (by kernel_rfl) (by kernel_rfl) (fun _ _ _ h => h) (Or.inl ⟨by rfl, ?_⟩) (by assumption) ?_
              rotate_left
              · (intro w hSw; (try dsimp only at hSw); go_simp; try with_reducible rfl)
              try simp only [Act.put, List.setIfInBounds_toArray, List.set_cons_zero, List.set_cons_succ]
              refine wpAnyH_take (i := 1) (oi := ⟨some 86, .load 9 (.tmp 85), 9, "ref.go:319", #[⟨0, .data⟩], none⟩) (v := ?_) rfl (by kernel_rfl) (by kernel_rfl) (by kernel_rfl) (fun _ _ _ h => h) (Or.inl ⟨by rfl, ?_⟩) (by assumption) ?_
              rotate_left
              · (intro w hSw; (try dsimp only at hSw); go_simp; try with_reducible rfl)
              try simp only [Act.put, List.setIfInBounds_toArray, List.set_cons_zero, List.set_cons_succ]
              refine wpAnyH_take (i := 2) (oi := ⟨some 87, .binOp .add 9 (.const (.string ⟨#[102, 110, 32]⟩)) (.tmp 86) 9, 9, "ref.go:319", #[⟨1, .data⟩], none⟩) (v := .string B2) rfl (by kernel_rfl) (by kernel_rfl) (by kernel_rfl) (fun _ _ _ h => h) (Or.inl ⟨by rfl, ?_⟩) (by assumption) ?_
              · (intro w hSw; (try dsimp only at hSw); go_simp)
              try simp only [Act.put, List.setIfInBounds_toArray, List.set_cons_zero, List.set_cons_succ]
              refine wpAnyH_take (i := 3) (oi := ⟨some 88, .binOp .add 9 (.tmp 87) (.const (.string ⟨#[40]⟩)) 9, 9, "ref.go:319", #[⟨2, .data⟩], none⟩) (v := .string B3) rfl (by kernel_rfl) (by kernel_rfl) (by kernel_rfl) (fun _ _ _ h => h) (Or.inl ⟨by rfl, ?_⟩) (by assumption) ?_
              · (intro w hSw; (try dsimp only at hSw); go_simp)
              try simp only [Act.put, List.setIfInBounds_toArray, List.set_cons_zero, List.set_cons_succ]
              refine wpAnyH_take (i := 4) (oi := ⟨some 89, .move (.tmp 8), 46, "ref.go:319", #[], none⟩) (v := ?_) rfl (by kernel_rfl) (by kernel_rfl) (by kernel_rfl) (fun _ _ _ h => h) (Or.inl ⟨by rfl, ?_⟩) (by assumption) ?_
              rotate_left
              · (intro w hSw; (try dsimp only at hSw); go_simp; try with_reducible rfl)
              try simp only [Act.put, List.setIfInBounds_toArray, List.set_cons_zero, List.set_cons_succ]
              refine wpAnyH_ready (rs := [5]) (by kernel_rfl) (by simp) ?_
              refine AllReadyH.cons (o := ⟨some 90, .call { callee := .value (.func 58), args := #[.tmp 89], argTypes := #[46] }, 9, "ref.go:319", #[⟨4, .data⟩], none⟩) rfl (fun K hK => ?_) AllReadyH.nil
              go_simp
              refine (HLj2.out _ HSB).mono ?_
              rintro z wb ⟨rfl, rfl⟩
              refine hK.out _ _ ?_ (fun hHeld => ?_)
              · exact (HSB.cell hwx).trans q0
              clear hK K
              try simp only [Act.put, List.setIfInBounds_toArray, List.set_cons_zero, List.set_cons_succ]
              refine wpAnyH_take (i := 6) (oi := ⟨some 91, .binOp .add 9 (.tmp 88) (.tmp 90) 9, 9, "ref.go:319", #[⟨3, .data⟩, ⟨5, .data⟩], none⟩) (v := .string B6) rfl (by kernel_rfl) (by kernel_rfl) (by kernel_rfl) (fun _ _ _ h => h) (Or.inl ⟨by rfl, ?_⟩) (by assumption) ?_
              · (intro w hSw; (try dsimp only at hSw); go_simp)
              try simp only [Act.put, List.setIfInBounds_toArray, List.set_cons_zero, List.set_cons_succ]
              refine wpAnyH_take (i := 7) (oi := ⟨some 92, .binOp .add 9 (.tmp 91) (.const (.string ⟨#[41]⟩)) 9, 9, "ref.go:319", #[⟨6, .data⟩], none⟩) (v := .string B7) rfl (by kernel_rfl) (by kernel_rfl) (by kernel_rfl) (fun _ _ _ h => h) (Or.inl ⟨by rfl, ?_⟩) (by assumption) ?_
              · (intro w hSw; (try dsimp only at hSw); go_simp)
              try simp only [Act.put, List.setIfInBounds_toArray, List.set_cons_zero, List.set_cons_succ]
              refine wpAnyH_take (i := 8) (oi := ⟨some 10, .assign (.tmp 92), 9, "ref.go:319", #[⟨7, .data⟩, ⟨5, .chain⟩, ⟨0, .phase⟩, ⟨1, .phase⟩, ⟨2, .phase⟩, ⟨3, .phase⟩, ⟨4, .phase⟩, ⟨5, .phase⟩, ⟨6, .phase⟩, ⟨7, .phase⟩], none⟩) (v := ?_) rfl (by kernel_rfl) (by kernel_rfl) (by kernel_rfl) (fun _ _ _ h => h) (Or.inl ⟨by rfl, ?_⟩) (by assumption) ?_
              rotate_left
              · (intro w hSw; (try dsimp only at hSw); go_simp; try with_reducible rfl)
              try simp only [Act.put, List.setIfInBounds_toArray, List.set_cons_zero, List.set_cons_succ]
              refine wpAnyH_done (by kernel_rfl) ?_ _
              have d3 : wx.drew.cell? ⟨wq.heap.size, 3, none⟩ = some (.slice pr rt.length cr) := (HSB.cell hwx).trans q3
              have HDR := Lib.hid HSB
              clear HSB qB2 qB3 qB6 qB7 q0 q1 q3 HLj2
              go_upto_if 96 with fail
              go_cut [10] from 49 to 133 (fun s10 wy => s10 = .string HH ∧ Hid (Below wx.heap.size wx wy))
              case first =>
                by_cases h0 : rt.length = 0
                · have hn0 : ¬ (0 : Int) < (rt.length : Int) := by omega
                  have hn1 : ¬ 0 < rt.length := by omega
                  go_wp2_with fail
                  go_meet
                  exact ⟨by rw [hH0 h0], HDR⟩
                · have hp1 : (0 : Int) < (rt.length : Int) := by omega
                  have hp2 : 0 < rt.length := by omega
                  have hjr := hjl.2 h0
                  obtain ⟨D98, hD98⟩ : ∃ B, B = str ([102, 110, 32] ++ nm ++ [40] ++ JP ++ [41] ++ [32, 45, 62, 32]) := ⟨_, rfl⟩
                  have qD98 : ∀ w : World, (Op.stringOp .add B7 ⟨#[32, 45, 62, 32]⟩).run Tryz.prog w = .ok (.string D98) w := fun w => by rw [HB7.out, hD98]; exact add_str ([102, 110, 32] ++ nm ++ [40] ++ JP ++ [41]) [32, 45, 62, 32] (by simp only [List.length_append, List.length_cons, List.length_nil]; omega) w
                  have qHH : ∀ w : World, (Op.stringOp .add D98 TR).run Tryz.prog w = .ok (.string HH) w := fun w => by rw [hD98, HTR.out, hH1 h0, ← List.append_assoc]; exact add_str ([102, 110, 32] ++ nm ++ [40] ++ JP ++ [41] ++ [32, 45, 62, 32]) JR (by simp only [List.length_append, List.length_cons, List.length_nil]; omega) w
                  have HNl := Lib.hid (HNs.out _ HDR.out (by omega))
                  clear hD98 hH0 hH1 HNs
                  go_wp2_with fail
                  refine HNl.out.mono ?_
                  rintro z wb ⟨rfl, rfl⟩
                  go_wp2_with fail
                  go_meet
                  exact ⟨rfl, HDR⟩
              case rest =>
                obtain ⟨rfl, HD⟩ := hcut
                clear hH0 hH1 HNs d3 HDR
                have HBw2 := Lib.hid (HBr.out.trans (HD.out.mono HBr.out.size))
                have hzc : w.heap.size ≤ wc.heap.size := Nat.le_trans hzw HBw2.out.size
                go_upto_region 19 with fail
                go_wp2_with (at_builtin; refine wpList_line (x := (0, HDT)) rfl _ _ rfl rfl ((HOW.out.later HBw2.out).later ((Below.refl _ wc).alloc (Nat.le_refl _) _)) (by simp; omega) (Nat.le_trans hlsl (by decide)) wc.heap.size rfl ?ca1 ?cb1 ?_)
                try (case ca1 => simp [go_sem])
                try (case cb1 => first | exact HBH.out | (rw [← HBH.out]; simp [go_sem]; done) | (rw [HBH.out]; simp; done) | (simp [go_sem]; rw [HBH.out]; done))
                intro v' wd hR' hK'
                have HO := Lib.hid hR'
                have HK2 : Hid (KpL w.heap.size W2 wd) := Lib.hid (((KpL.of_below HBw2.out).trans (KpL.of_below ((Below.refl _ wc).alloc (Nat.le_refl _) (.cells #[.int .i64 0, .string BH] 104)))).trans hK')
                clear hR' hK' qBH
                go_wp2_with fail
                go_loopw [3, 11] (fun out i wy => ∃ (k4 : Nat) (r4 : List Vr) (l4 : List (Nat × List UInt8)), i = .int .i64 k4 ∧ k4 + r4.length = vs.length ∧ l4.length + r4.length + (bd.lines 1).length + 1 + (r.flatMap Fnc.lines).length ≤ 1000000 ∧ Hid (∀ v ∈ r4, v ∈ vs) ∧ Hid (∀ b o, pv = some ⟨b, o, none⟩ → Row (Vr.At wq) 4 vs b o → Row (Vr.At wq) 4 r4 b (o + k4 * 4)) ∧ Hid (ls ++ ((0, HDT) :: vs.map (fun v => (1, v.line))) = l4 ++ r4.map (fun v => (1, v.line))) ∧ Hid (LnRow w.heap.size wy l4 out) ∧ Hid (KpL w.heap.size W2 wy)) (fun _ i _ => vs.length - (intOf i).toNat)
                case atStart => exact ⟨0, vs, ls ++ [(0, HDT)], rfl, by omega, by simp only [List.length_append, List.length_cons, List.length_nil]; omega, Lib.hid fun v h => h, Lib.hid fun b o _ h => by rw [Nat.zero_mul]; exact h, Lib.hid (by simp), HO, HK2⟩
                case round =>
                  clear HO HK2
                  obtain ⟨k4, r4, l4, rfl, hk4, hl4, hmem, hat, hE, hown, hK⟩ := hrel
                  obtain ⟨wy, rfl⟩ : ∃ wy : World, wy = wr := ⟨_, rfl⟩
                  have kf := HF.out wy hK.out
                  have q2 : wy.cell? ⟨wq.heap.size, 2, none⟩ = some (.slice pv vs.length cv) := cell_block kf rfl
                  have q4 : wy.cell? ⟨wq.heap.size, 4, none⟩ = some (.slice pb bd.len cb) := cell_block kf rfl
                  have hwy : wq.heap.size < wy.heap.size := lt_of_block kf
                  have hB4 : Below w.heap.size wq wy := (HB2.out.mono hwr).trans (hK.out.below hzw)
                  have HG4 := Lib.hid (HG.out.later (hBw.out.trans hB4))
                  have hzy : w.heap.size ≤ wy.heap.size := by omega
                  cases r4 with
                  | cons v r4 =>
                    simp only [List.length_cons] at hk4 hl4
                    have hlt4 : k4 < vs.length := by omega
                    rcases Sv.out.2 with h30 | ⟨bv, ov, rfl, hbv, hav⟩
                    · omega
                    obtain ⟨hx, hr⟩ := hat.out bv ov rfl hav
                    have HRp := Lib.hid hr
                    obtain ⟨g0, g1, g2, g3⟩ := Vr.At.later (hB4.mono HNN.out) v bv _ hbv hx
                    have hv := hmem.out v (by simp)
                    have HVr := Lib.hid (rvariable_any v (HVm.out v hv) (HVf.out v hv) wy HG4.out (HVl.out v hv))
                    have HE4 := Lib.hid (show ls ++ ((0, HDT) :: vs.map (fun v => (1, v.line))) = (l4 ++ [(1, v.line)]) ++ r4.map (fun v => (1, v.line)) by rw [hE.out]; simp)
                    have HMm4 := Lib.hid (fun y (hy : y ∈ r4) => hmem.out y (List.mem_cons_of_mem _ hy))
                    obtain ⟨LN, hLN⟩ : ∃ l, v.line = l := ⟨_, rfl⟩
                    rw [hLN] at HVr HE4
                    obtain ⟨BL, hBL⟩ : ∃ B, str LN = B := ⟨_, rfl⟩
                    rw [hBL] at HVr
                    have HBL := Lib.hid hBL
                    have HO4 := Lib.hid hown.out
                    have HK4 := Lib.hid hK.out
                    have hl4l : l4.length ≤ 1000000 := by omega
                    clear hx hr hav hat hE hmem hown hK hLN hBL kf q4
                    go_wp2_with fail
                    refine HVr.out.mono ?_
                    rintro z wz ⟨rfl, hBz⟩
                    have HBz := Lib.hid hBz
                    have hzz : w.heap.size ≤ wz.heap.size := Nat.le_trans hzy hBz.size
                    clear hBz
                    go_wp2_with (at_builtin; refine wpList_line (x := (1, LN)) rfl _ _ rfl rfl ((HO4.out.later HBz.out).later ((Below.refl _ wz).alloc (Nat.le_refl _) _)) (by simp; omega) (Nat.le_trans hl4l (by decide)) wz.heap.size rfl ?ca2 ?cb2 ?_)
                    try (case ca2 => simp [go_sem])
                    try (case cb2 => first | exact HBL.out.symm | (rw [← HBL.out]; simp [go_sem]; done) | (rw [HBL.out]; simp; done) | (simp [go_sem]; rw [HBL.out]; done))
                    intro v' we hR' hK'
                    have HO5 := Lib.hid hR'
                    have HK5 := Lib.hid (((HK4.out.trans (KpL.of_below HBz.out)).trans (KpL.of_below ((Below.refl _ wz).alloc (Nat.le_refl _) (.cells #[.int .i64 1, .string BL] 104)))).trans hK')
                    clear hR' hK' g0 g1 g2 g3 q2
                    go_wp2_with fail
                    go_roundw
                    case rel => exact ⟨k4 + 1, r4, l4 ++ [(1, LN)], by go_num, by omega, by simp only [List.length_append, List.length_cons, List.length_nil]; omega, HMm4, Lib.hid fun b' o' e _ => by cases e; rw [show ov + (k4 + 1) * 4 = ov + k4 * 4 + 4 by omega]; exact HRp.out, HE4, HO5, HK5⟩
                    case measure => simp [intOf]; omega
                  | nil =>
                    simp only [List.length_nil] at hk4 hl4
                    have hge4 : ¬ k4 < vs.length := by omega
                    have hE4 : ls ++ ((0, HDT) :: vs.map (fun v => (1, v.line))) = l4 := by rw [hE.out]; simp
                    have HE5 := Lib.hid (show ls ++ FL = (l4 ++ bd.lines 1) ++ [(0, [125])] by rw [HFL.out, ← hE4]; simp)
                    have HBd := Lib.hid (show Calls Tryz.prog 60 #[.slice pb bd.len cb, .int .i64 1] wy fun e w' => (∃ v, e = .returned v ∧ LnRow wy.heap.size w' (bd.lines 1) v) ∧ Below wy.heap.size wy w' from
                      rlines_to (bd.size + 1) bd (Nat.lt_succ_self _) hbm 1 (by omega) HBl.out (by omega) pb cb N wy (Nat.le_trans HNN.out hzy) (Sb.out.later (hB4.mono HNN.out) (Nat.le_refl N)) HG4.out)
                    have HO4 := Lib.hid hown.out
                    have HK4 := Lib.hid hK.out
                    clear hat hE hE4 hmem hown hK kf
                    go_wp2_with fail
                    refine HBd.out.mono ?_
                    rintro z wz ⟨⟨vb, rfl, hrow⟩, hBz⟩
                    obtain ⟨q5, d5, rfl, hsrc⟩ := hrow.src
                    have HBz := Lib.hid hBz
                    have HSr := Lib.hid hsrc
                    have hzz : w.heap.size ≤ wz.heap.size := Nat.le_trans hzy hBz.size
                    have hl5 : l4.length + (bd.lines 1).length ≤ 1000000000 := by omega
                    clear hBz hrow hsrc
                    go_wp2_with (at_builtin; refine wpList_lines (xs := bd.lines 1) rfl _ _ rfl rfl (HO4.out.later HBz.out) hzz hl5 q5 d5 rfl HSr.out ?_)
                    intro v5 we hR5 hK5
                    have HO5 := Lib.hid hR5
                    have HK5 := Lib.hid ((HK4.out.trans (KpL.of_below HBz.out)).trans hK5)
                    have hze : w.heap.size ≤ we.heap.size := Nat.le_trans hzz hK5.size
                    have hl6 : (l4 ++ bd.lines 1).length ≤ 1000000000 := by rw [List.length_append]; exact hl5
                    clear hR5 hK5
                    go_wp2_with (at_builtin; refine wpList_line (x := (0, [125])) rfl _ _ rfl rfl (HO5.out.later ((Below.refl _ we).alloc (Nat.le_refl _) _)) (by simp; omega) hl6 we.heap.size rfl ?ca3 ?cb3 ?_)
                    try (case ca3 => simp [go_sem])
                    try (case cb3 => first | rfl | (rw [show str [125] = ⟨#[125]⟩ from rfl]; simp [go_sem]))
                    intro v6 wg hR6 hK6
                    have HO6 := Lib.hid (show LnRow w.heap.size wg (ls ++ FL) v6 by rw [HE5.out]; simpa using hR6)
                    have HK6 := Lib.hid ((HK5.out.trans (KpL.of_below ((Below.refl _ we).alloc (Nat.le_refl _) (.cells #[.int .i64 0, .string ⟨#[125]⟩] 104)))).trans hK6)
                    have HK7 : Hid (KpL w.heap.size w1 wg) := Lib.hid (HKW.out.trans HK6.out)
                    clear hR6 hK6 q4 q2
                    go_wp2_with fail
                    go_roundw
                    case rel => exact ⟨k2 + 1, r, ls ++ FL, by go_num, by omega, by rw [List.length_append, hfl]; omega, HMm, Lib.hid fun b' o' e _ => by cases e; rw [show o + (k2 + 1) * 5 = o + k2 * 5 + 5 by omega]; exact HR.out, HE, HO6, HK7⟩
                    case measure => simp [intOf]; omega
        | nil =>
          simp only [List.length_nil] at hk2
          have hge2 : ¬ k2 < fs.length := by omega
          obtain rfl : L = ls := by rw [hE.out]; simp
          obtain ⟨p3, c3, rfl, hla⟩ := hown.out.lie
          have HLA := Lib.hid hla
          have HBw := Lib.hid hBw.out
          clear hE hown hK hat hmem HP hla kp hBw HMf HFf S2
          obtain ⟨i0, hi, hz0, hz1', hz2⟩ := info_parts'
          go_wp2_with fail
          clear cp0 cp1
          go_loopw [12, 13] (fun bb i wx => ∃ k : Nat, i = .int .i64 k ∧ k ≤ L.length ∧ Hid (BRow wq.heap.size wx (linesT (L.take k)) bb) ∧ Hid (Below wq.heap.size wq wx)) (fun _ i _ => L.length - (intOf i).toNat)
          case atStart => exact ⟨0, rfl, Nat.zero_le _, Lib.hid (BRow.nil _ _), Lib.hid (Below.refl _ _)⟩
          case round =>
            obtain ⟨k, rfl, hk, hrow, hB⟩ := hrel
            obtain ⟨wx, rfl⟩ : ∃ wx : World, wx = wr := ⟨_, rfl⟩
            by_cases hlt : k < L.length
            · obtain ⟨⟨tt, tx⟩, hxk⟩ : ∃ x, L[k]? = some x := ⟨_, List.getElem?_eq_getElem hlt⟩
              rcases HLA.out with h0 | ⟨g, og, rfl, hg, hc⟩
              · omega
              have HC := Lib.hid (fun (w' : World) (hb : Below wq.heap.size wq w') => show w'.cell? ⟨g, og + k * 2, none⟩ = some (.int .i64 (tt : Int)) ∧ w'.cell? ⟨g, og + k * 2 + 1, none⟩ = some (.string (str tx)) from ⟨(hb.cell (p := ⟨g, _, none⟩) hg).trans (hc k _ hxk).1, (hb.cell (p := ⟨g, _, none⟩) hg).trans (hc k _ hxk).2⟩)
              have hbnd := linesT_take hxk
              have hle := linesT_le L (k + 1)
              simp only [] at hbnd
              obtain ⟨T0, hT0⟩ : ∃ T0, T0 = linesT (L.take k) := ⟨_, rfl⟩
              rw [← hT0] at hbnd hrow
              have htot : T0.length + (tt + (tx.length + 1)) ≤ 100000000000 := by
                have h1 := congrArg List.length hbnd
                have h2 := HTl.out
                simp only [List.length_append, List.length_replicate, List.length_cons, List.length_nil] at h1; omega
              have HNx := Lib.hid hbnd
              have HR0 := Lib.hid (show BRow wq.heap.size wx (T0 ++ List.replicate 0 9) _ from by rw [List.replicate_zero, List.append_nil]; exact hrow.out)
              have HSx := Lib.hid (size_str tx)
              obtain ⟨e0, e1⟩ := HC.out wx hB.out
              clear hbnd hle hT0 hrow hc hxk
              go_wp2_with fail
              clear e0 e1
              go_loopw [12, 14] (fun bb j wy => ∃ m : Nat, j = .int .i64 m ∧ m ≤ tt ∧ Hid (BRow wq.heap.size wy (T0 ++ List.replicate m 9) bb) ∧ Hid (Below wq.heap.size wq wy)) (fun _ j _ => tt - (intOf j).toNat)
              case atStart => exact ⟨0, rfl, Nat.zero_le _, HR0, hB⟩
              case round =>
                obtain ⟨m, rfl, hm, hrow2, hB2⟩ := hrel
                obtain ⟨wy, rfl⟩ : ∃ wy : World, wy = wr := ⟨_, rfl⟩
                obtain ⟨e0, e1⟩ := HC.out wy hB2.out
                have hby : wq.heap.size ≤ wy.heap.size := hB2.out.size
                have hr := hrow2.out
                have hrl : (T0 ++ List.replicate m 9).length = T0.length + m := by simp
                unfold BRow at hr
                by_cases hmt : m < tt
                · go_upto_region 32 with fail
                  go_wp2_with (at_builtin; refine wpList_append_T _ rfl _ _ 83 rfl wq.heap.size 5 i0 Tryz.underlying83 hi hz0 hz1' hz2 _ _ _ rfl (hr.alloc _) ⟨wy.heap.size, 0, none⟩ 1 1 [.int .u8 (((9 : UInt8).toNat : Nat) : Int)] rfl rfl ?da1 ?da2 ?da3 ?da4 ?da5 ?_)
                  (try (case da1 => intro j u hj; match j, hj with
                    | 0, hj => simp at hj; subst hj; simp [go_sem, Addr.add]))
                  (try (case da2 => intro u hu; simp at hu; subst hu; rfl))
                  (try (case da3 => unfold maxLen; omega))
                  (try (case da4 => omega))
                  (try (case da5 => simp; omega))
                  intro v' wz h1 h2
                  rw [← hrl] at h1
                  have hap := brow_app (c := 9) hrow2.out hby h1 h2
                  have HO := Lib.hid (show BRow wq.heap.size wz (T0 ++ List.replicate (m + 1) 9) v' by rw [List.replicate_succ', ← List.append_assoc]; exact hap.1)
                  have HBz := Lib.hid (hB2.out.trans hap.2.1)
                  clear h1 h2 hap hr e0 e1
                  go_wp2_with fail
                  go_roundw
                  case rel => exact ⟨m + 1, by go_num, by omega, HO, HBz⟩
                  case measure => simp [intOf]; omega
                · obtain rfl : m = tt := by omega
                  go_upto_region 33 with fail
                  go_wp2_with (at_builtin; refine wpList_append_str_T _ rfl _ _ 83 9 rfl wq.heap.size 5 i0 Tryz.underlying83 Tryz.underlying9 hi hz0 hz1' hz2 _ _ _ rfl hr (str tx) rfl ?ea1 ?ea2 ?ea3 ?_)
                  (try (case ea1 => have := HSx.out; unfold maxLen; omega))
                  (try (case ea2 => have := HSx.out; omega))
                  (try (case ea3 => exact hby))
                  intro v2 wz h1 h2
                  rw [← hrl] at h1
                  have hap := brow_apps hrow2.out hby h1 h2
                  rw [str_data] at hap
                  obtain ⟨BB, hBB⟩ : ∃ B, B = T0 ++ List.replicate m 9 ++ tx := ⟨_, rfl⟩
                  rw [← hBB] at hap
                  have HR3 := Lib.hid hap.1
                  have HB3 := Lib.hid (hB2.out.trans hap.2.1)
                  have hbz : wq.heap.size ≤ wz.heap.size := HB3.out.size
                  have hr3 := hap.1
                  have hrl3 : BB.length = T0.length + m + tx.length := by rw [hBB]; simp only [List.length_append, List.length_replicate]
                  have HBB := Lib.hid hBB
                  clear hBB
                  unfold BRow at hr3
                  clear h1 h2 hap hr hrow2 e0 e1
                  go_wp2_with (at_builtin; refine wpList_append_T _ rfl _ _ 83 rfl wq.heap.size 5 i0 Tryz.underlying83 hi hz0 hz1' hz2 _ _ _ rfl (hr3.alloc _) ⟨wz.heap.size, 0, none⟩ 1 1 [.int .u8 (((10 : UInt8).toNat : Nat) : Int)] rfl rfl ?fa1 ?fa2 ?fa3 ?fa4 ?fa5 ?_)
                  (try (case fa1 => intro j u hj; match j, hj with
                    | 0, hj => simp at hj; subst hj; simp [go_sem, Addr.add]))
                  (try (case fa2 => intro u hu; simp at hu; subst hu; rfl))
                  (try (case fa3 => unfold maxLen; omega))
                  (try (case fa4 => omega))
                  (try (case fa5 => simp; omega))
                  intro v' we h1 h2
                  try rw [← hrl3] at h1
                  have hap := brow_app (c := 10) HR3.out hbz h1 h2
                  have HO := Lib.hid (show BRow wq.heap.size we (linesT (L.take (k + 1))) v' by rw [HNx.out]; have := hap.1; rw [HBB.out] at this; simpa using this)
                  have HBe := Lib.hid (HB3.out.trans hap.2.1)
                  clear h1 h2 hap hr3
                  go_wp2_with fail
                  go_roundw
                  case rel => exact ⟨k + 1, by go_num, by omega, HO, HBe⟩
                  case measure => simp [intOf]; omega
            · obtain rfl : k = L.length := by omega
              rw [List.take_length] at hrow
              have hcv := hrow.out.conv
              have HBf := Lib.hid (HBw.out.trans (hB.out.mono HBw.out.size))
              clear hrow
              go_wp2_with fail
              go_ret
              exact ⟨rfl, HBf.out⟩
end Go.Proofs.YtlhbledakddbbaaGreatDoor
/- The law on programs' texts: its walk. -/
namespace Go.Proofs.YtlhbledakddbbaaGreatDoor
open Go.RowKit

set_option maxRecDepth 100000 in
set_option maxHeartbeats 6400000 in
theorem texts_law (x : Prg) (p q : Option Addr) (c d : Nat) (w : World) (hG : Glob w) (hx : x.Ok w w.heap.size p q) (hfit : x.fit) :
    Calls Tryz.prog 4 #[x.val p q c d] w fun e w' => e = .returned (.bool true) ∧ Below w.heap.size w w' := by
  have HK := Lib.hid (fun w' (hb : Below w.heap.size w w') => known_any w' (hG.later hb))
  have HL := Lib.hid (fun (w1 : World) (hb : Below w.heap.size w w1) => long_any x 5000 (Nat.le_refl _) p q c d w.heap.size w1 (hx.later hb (Nat.le_refl _)) hb.size)
  have HLN := Lib.hid (fun (ht : x.total ≤ 5000) (hm : x.may = true) => Prg.lines_len hx hfit ht hm)
  have HE0 := Lib.hid (fun (ht : x.total ≤ 5000) (w1 : World) (hb : Below w.heap.size w w1) => text_any x p q c d w.heap.size w1 (hG.later hb) (hx.later hb (Nat.le_refl _)) hb.size hfit ht)
  have h6 : x.total ≤ 5000 → ∀ f ∈ x.fns, f.body.wt ≤ 1000000 := fun ht f hf => by
    have h1 := Sts.wt_total f.body
    have h2 := fnsT_mem hf
    unfold Prg.total at ht
    unfold Fnc.total at h2
    omega
  have HMy0 := Lib.hid (fun (ht : x.total ≤ 5000) (w1 : World) (hb : Below w.heap.size w w1) => may_any x (h6 ht) p q c d w.heap.size w1 hb.size (hx.later hb (Nat.le_refl _)))
  have HRm0 := Lib.hid (fun (ht : x.total ≤ 5000) (w1 : World) (hb : Below w.heap.size w w1) => rmay_any x (h6 ht) p q c d w.heap.size w1 hb.size (hx.later hb (Nat.le_refl _)))
  have HT := Lib.hid (fun (ht : x.total ≤ 5000) (hm : x.may = true) (w1 : World) (hb : Below w.heap.size w w1) => rtext_any x hm hfit (HLN.out ht hm) (by have := Prg.lines_cnt x; omega) (by
      have h1 := Prg.lines_cnt x
      have h2 := Prg.lines_len hx hfit ht hm
      have h3 : x.lines.length * 1001001 ≤ 15000 * 1001001 := Nat.mul_le_mul_right _ (by omega)
      have h4 := linesT_len x.lines 1001001 (fun y hy => by have := h2 y hy; omega)
      omega) p q c d w.heap.size w1 (hG.later hb) (hx.later hb (Nat.le_refl _)) hb.size)
  clear h6 hG hx hfit HLN
  obtain ⟨rg, fs⟩ := x
  have hxo : (Prg.mk rg fs).out = if (Prg.mk rg fs).err = 0 then linesT (Prg.mk rg fs).lines else [] := rfl
  have hxe : (Prg.mk rg fs).err = if (Prg.mk rg fs).may then (if (linesT (Prg.mk rg fs).lines).length ≤ 65536 then 0 else 3) else 2 := rfl
  obtain ⟨W0, hW0⟩ : ∃ W0, w.alloc (.cells #[.slice p rg.length c, .slice q fs.length d] 39) = W0 := ⟨_, rfl⟩
  have HW0 := Lib.hid (show Below w.heap.size w W0 by rw [← hW0]; exact (Below.refl _ _).alloc (Nat.le_refl _) _)
  have HX := Lib.hid (fun w1 hb => cells_later (w0 := W0) (w1 := w1) (b := w.heap.size) (A := #[.slice p rg.length c, .slice q fs.length d]) (t := 39) (by rw [← hW0]; exact heap_alloc_new w _) hb)
  have x0 : W0.cell? ⟨w.heap.size, 0, none⟩ = some (.slice p rg.length c) := HX.out _ (Below.refl _ _) 0 _ rfl
  have x1 : W0.cell? ⟨w.heap.size, 1, none⟩ = some (.slice q fs.length d) := HX.out _ (Below.refl _ _) 1 _ rfl
  unfold Prg.val at HL HE0 HMy0 HRm0 HT ⊢
  simp only [] at HL HE0 HMy0 HRm0 HT ⊢
  generalize (Prg.mk rg fs).err = ee at HE0 hxo hxe
  generalize (Prg.mk rg fs).out = er at HE0 hxo
  generalize linesT (Prg.mk rg fs).lines = tx at HT hxo hxe
  generalize (Prg.mk rg fs).may = m at HMy0 HRm0 HT hxe
  by_cases hlong : 5000 < (Prg.mk rg fs).total
  · rw [decide_eq_true hlong] at HL
    clear hlong hxo hxe HT HE0 HMy0 HRm0
    go_enter Tryz.func4, Tryz.ntmps4
    go_wp2_with fail
    refine (HL.out _ HW0.out).mono ?_
    rintro e w1 ⟨rfl, hB⟩
    have HD1 := Lib.hid hB
    clear hB hW0 x0 x1
    go_wp2_with fail
    refine (HK.out _ (HW0.out.trans (HD1.out.mono HW0.out.size))).mono ?_
    rintro z wz ⟨rfl, hB'⟩
    have HBz := Lib.hid ((HW0.out.trans (HD1.out.mono HW0.out.size)).trans (hB'.mono (HW0.out.trans (HD1.out.mono HW0.out.size)).size))
    clear hB'
    go_wp2_with fail
    go_ret
    exact ⟨rfl, HBz.out⟩
  · rw [decide_eq_false hlong] at HL
    have HE := Lib.hid (HE0.out (by omega))
    have HMy := Lib.hid (HMy0.out (by omega))
    have HRm := Lib.hid (HRm0.out (by omega))
    have HT1 := Lib.hid (HT.out (by omega))
    clear HE0 HMy0 HRm0 HT hlong
    cases m with
    | true =>
      rw [if_pos rfl] at hxe
      have HT2 := Lib.hid (HT1.out rfl)
      by_cases hbig : tx.length ≤ 65536
      · rw [if_pos hbig] at hxe
        subst hxe
        rw [if_pos rfl] at hxo
        subst hxo
        have hsz2 := size_str er
        have hgt : ¬ 65536 < (str er).size := by rw [hsz2]; omega
        have e1 := str_beq_eq er
        obtain ⟨TX, hTX⟩ : ∃ T, str er = T := ⟨_, rfl⟩
        rw [hTX] at HT2 HE hgt e1
        clear hTX hsz2 hbig HT1
        go_enter Tryz.func4, Tryz.ntmps4
        go_wp2_with fail
        refine (HL.out _ HW0.out).mono ?_
        rintro z w1 ⟨rfl, hB⟩
        have HD1 := Lib.hid hB
        clear hB hW0 x0 x1
        have w1c0 : w1.cell? ⟨w.heap.size, 0, none⟩ = some (.slice p rg.length c) := HX.out _ HD1.out 0 _ rfl
        have w1c1 : w1.cell? ⟨w.heap.size, 1, none⟩ = some (.slice q fs.length d) := HX.out _ HD1.out 1 _ rfl
        go_wp2_with fail
        refine (HE.out _ (HW0.out.trans (HD1.out.mono HW0.out.size))).mono ?_
        rintro z w2 ⟨rfl, hB⟩
        have HD2 := Lib.hid (HD1.out.trans (hB.mono HD1.out.size))
        clear hB w1c0 w1c1
        go_upto_region 4 with fail
        go_cut [18] from 14 to 17 (fun s18 wx => s18 = .bool false ∧ Hid (Below W0.heap.size W0 wx))
        case first =>
          have HS : Below W0.heap.size W0 w2.drew := HD2.out.drew
          refine wp_region_held_drew (S := fun W => Below W0.heap.size W0 W ∧ W.cell? ⟨w.heap.size, 0, none⟩ = some (.slice p rg.length c) ∧ W.cell? ⟨w.heap.size, 1, none⟩ = some (.slice q fs.length d)) (by kernel_rfl) ?_ (fun hHeld => ?_)
          · exact ⟨HS, HX.out _ HS 0 _ rfl, HX.out _ HS 1 _ rfl⟩
          refine wpAnyH_take (i := 0) (oi := ⟨some 14, .load 39 (.tmp 1), 39, "law.go:94", #[], none⟩) (v := ?_) rfl (by kernel_rfl) (by kernel_rfl) (by kernel_rfl) (fun _ _ _ h => h) (Or.inl ⟨by rfl, ?_⟩) (by assumption) ?_
          rotate_left
          · (intro w hSw; (try dsimp only at hSw); go_simp; try with_reducible rfl)
          try simp only [Act.put, List.setIfInBounds_toArray, List.set_cons_zero, List.set_cons_succ]
          refine wpAnyH_take (i := 2) (oi := ⟨some 16, .load 39 (.tmp 1), 39, "law.go:94", #[], none⟩) (v := ?_) rfl (by kernel_rfl) (by kernel_rfl) (by kernel_rfl) (fun _ _ _ h => h) (Or.inl ⟨by rfl, ?_⟩) (by assumption) ?_
          rotate_left
          · (intro w hSw; (try dsimp only at hSw); go_simp; try with_reducible rfl)
          try simp only [Act.put, List.setIfInBounds_toArray, List.set_cons_zero, List.set_cons_succ]
          refine wpAnyH_ready (rs := [1]) (by kernel_rfl) (by simp) ?_
          refine AllReadyH.cons (o := ⟨some 15, .call { callee := .value (.func 18), args := #[.tmp 14], argTypes := #[39] }, 4, "law.go:94", #[⟨0, .data⟩], none⟩) rfl (fun K hK => ?_) AllReadyH.nil
          go_simp
          refine (HMy.out _ (HW0.out.trans (HS.mono HW0.out.size))).mono ?_
          rintro z wa ⟨rfl, hB'⟩
          replace HS := HS.trans (hB'.mono HS.size)
          clear hB'
          refine hK.out _ _ ?_ (fun hHeld => ?_)
          · exact ⟨HS, HX.out _ HS 0 _ rfl, HX.out _ HS 1 _ rfl⟩
          clear hK K
          try simp only [Act.put, List.setIfInBounds_toArray, List.set_cons_zero, List.set_cons_succ]
          refine wpAnyH_ready (rs := [3]) (by kernel_rfl) (by simp) ?_
          refine AllReadyH.cons (o := ⟨some 17, .call { callee := .value (.func 19), args := #[.tmp 16], argTypes := #[39] }, 4, "law.go:94", #[⟨2, .data⟩, ⟨1, .chain⟩], none⟩) rfl (fun K hK => ?_) AllReadyH.nil
          go_simp
          refine (HRm.out _ (HW0.out.trans (HS.mono HW0.out.size))).mono ?_
          rintro z wa ⟨rfl, hB'⟩
          replace HS := HS.trans (hB'.mono HS.size)
          clear hB'
          refine hK.out _ _ ?_ (fun hHeld => ?_)
          · exact ⟨HS, HX.out _ HS 0 _ rfl, HX.out _ HS 1 _ rfl⟩
          clear hK K
          try simp only [Act.put, List.setIfInBounds_toArray, List.set_cons_zero, List.set_cons_succ]
          refine wpAnyH_take (i := 4) (oi := ⟨some 18, .binOp .neq 4 (.tmp 15) (.tmp 17) 4, 4, "law.go:94", #[⟨1, .data⟩, ⟨3, .data⟩], none⟩) (v := .bool false) rfl (by kernel_rfl) (by kernel_rfl) (by kernel_rfl) (fun _ _ _ h => h) (Or.inl ⟨by rfl, ?_⟩) (by assumption) ?_
          · (intro w hSw; (try dsimp only at hSw); go_simp)
          try simp only [Act.put, List.setIfInBounds_toArray, List.set_cons_zero, List.set_cons_succ]
          refine wpAnyH_done (by kernel_rfl) ?_ _
          go_wp2_with fail
          go_meet
          exact ⟨rfl, Lib.hid HS⟩
        case rest =>
          obtain ⟨rfl, HD3⟩ := hcut
          have wcc0 : wc.cell? ⟨w.heap.size, 0, none⟩ = some (.slice p rg.length c) := HX.out _ HD3.out 0 _ rfl
          have wcc1 : wc.cell? ⟨w.heap.size, 1, none⟩ = some (.slice q fs.length d) := HX.out _ HD3.out 1 _ rfl
          go_wp2_with fail
          refine (HRm.out _ (HW0.out.trans (HD3.out.mono HW0.out.size))).mono ?_
          rintro z w4 ⟨rfl, hB⟩
          have HD4 := Lib.hid (HD3.out.trans (hB.mono HD3.out.size))
          clear hB wcc0 wcc1
          have w4c0 : w4.cell? ⟨w.heap.size, 0, none⟩ = some (.slice p rg.length c) := HX.out _ HD4.out 0 _ rfl
          have w4c1 : w4.cell? ⟨w.heap.size, 1, none⟩ = some (.slice q fs.length d) := HX.out _ HD4.out 1 _ rfl
          go_wp2_with fail
          refine (HT2.out _ (HW0.out.trans (HD4.out.mono HW0.out.size))).mono ?_
          rintro z w5 ⟨rfl, hB⟩
          have HD5 := Lib.hid (HD4.out.trans (hB.mono HD4.out.size))
          clear hB
          go_wp2_with (go_at_call 14; refine (num_any _ _).mono ?_; rintro e w' ⟨rfl, rfl⟩)
          refine (HK.out _ (HW0.out.trans (HD5.out.mono HW0.out.size))).mono ?_
          rintro z wz ⟨rfl, hB'⟩
          have HBz := Lib.hid ((HW0.out.trans (HD5.out.mono HW0.out.size)).trans (hB'.mono (HW0.out.trans (HD5.out.mono HW0.out.size)).size))
          clear hB'
          go_wp2_with fail
          go_ret
          exact ⟨rfl, HBz.out⟩
      · rw [if_neg hbig] at hxe
        subst hxe
        rw [if_neg (by decide)] at hxo
        subst hxo
        have hsz2 := size_str tx
        have hgt : 65536 < (str tx).size := by rw [hsz2]; omega
        obtain ⟨TX, hTX⟩ : ∃ T, str tx = T := ⟨_, rfl⟩
        rw [hTX] at HT2 hgt
        have e0 : (str []).toList = [] := by rw [Lib.toList_data, str_data]
        clear hTX hsz2 hbig HT1
        go_enter Tryz.func4, Tryz.ntmps4
        go_wp2_with fail
        refine (HL.out _ HW0.out).mono ?_
        rintro z w1 ⟨rfl, hB⟩
        have HD1 := Lib.hid hB
        clear hB hW0 x0 x1
        have w1c0 : w1.cell? ⟨w.heap.size, 0, none⟩ = some (.slice p rg.length c) := HX.out _ HD1.out 0 _ rfl
        have w1c1 : w1.cell? ⟨w.heap.size, 1, none⟩ = some (.slice q fs.length d) := HX.out _ HD1.out 1 _ rfl
        go_wp2_with fail
        refine (HE.out _ (HW0.out.trans (HD1.out.mono HW0.out.size))).mono ?_
        rintro z w2 ⟨rfl, hB⟩
        have HD2 := Lib.hid (HD1.out.trans (hB.mono HD1.out.size))
        clear hB w1c0 w1c1
        go_upto_region 4 with fail
        go_cut [18] from 14 to 17 (fun s18 wx => s18 = .bool false ∧ Hid (Below W0.heap.size W0 wx))
        case first =>
          have HS : Below W0.heap.size W0 w2.drew := HD2.out.drew
          refine wp_region_held_drew (S := fun W => Below W0.heap.size W0 W ∧ W.cell? ⟨w.heap.size, 0, none⟩ = some (.slice p rg.length c) ∧ W.cell? ⟨w.heap.size, 1, none⟩ = some (.slice q fs.length d)) (by kernel_rfl) ?_ (fun hHeld => ?_)
          · exact ⟨HS, HX.out _ HS 0 _ rfl, HX.out _ HS 1 _ rfl⟩
          refine wpAnyH_take (i := 0) (oi := ⟨some 14, .load 39 (.tmp 1), 39, "law.go:94", #[], none⟩) (v := ?_) rfl (by kernel_rfl) (by kernel_rfl) (by kernel_rfl) (fun _ _ _ h => h) (Or.inl ⟨by rfl, ?_⟩) (by assumption) ?_
          rotate_left
          · (intro w hSw; (try dsimp only at hSw); go_simp; try with_reducible rfl)
          try simp only [Act.put, List.setIfInBounds_toArray, List.set_cons_zero, List.set_cons_succ]
          refine wpAnyH_take (i := 2) (oi := ⟨some 16, .load 39 (.tmp 1), 39, "law.go:94", #[], none⟩) (v := ?_) rfl (by kernel_rfl) (by kernel_rfl) (by kernel_rfl) (fun _ _ _ h => h) (Or.inl ⟨by rfl, ?_⟩) (by assumption) ?_
          rotate_left
          · (intro w hSw; (try dsimp only at hSw); go_simp; try with_reducible rfl)
          try simp only [Act.put, List.setIfInBounds_toArray, List.set_cons_zero, List.set_cons_succ]
          refine wpAnyH_ready (rs := [1]) (by kernel_rfl) (by simp) ?_
          refine AllReadyH.cons (o := ⟨some 15, .call { callee := .value (.func 18), args := #[.tmp 14], argTypes := #[39] }, 4, "law.go:94", #[⟨0, .data⟩], none⟩) rfl (fun K hK => ?_) AllReadyH.nil
          go_simp
          refine (HMy.out _ (HW0.out.trans (HS.mono HW0.out.size))).mono ?_
          rintro z wa ⟨rfl, hB'⟩
          replace HS := HS.trans (hB'.mono HS.size)
          clear hB'
          refine hK.out _ _ ?_ (fun hHeld => ?_)
          · exact ⟨HS, HX.out _ HS 0 _ rfl, HX.out _ HS 1 _ rfl⟩
          clear hK K
          try simp only [Act.put, List.setIfInBounds_toArray, List.set_cons_zero, List.set_cons_succ]
          refine wpAnyH_ready (rs := [3]) (by kernel_rfl) (by simp) ?_
          refine AllReadyH.cons (o := ⟨some 17, .call { callee := .value (.func 19), args := #[.tmp 16], argTypes := #[39] }, 4, "law.go:94", #[⟨2, .data⟩, ⟨1, .chain⟩], none⟩) rfl (fun K hK => ?_) AllReadyH.nil
          go_simp
          refine (HRm.out _ (HW0.out.trans (HS.mono HW0.out.size))).mono ?_
          rintro z wa ⟨rfl, hB'⟩
          replace HS := HS.trans (hB'.mono HS.size)
          clear hB'
          refine hK.out _ _ ?_ (fun hHeld => ?_)
          · exact ⟨HS, HX.out _ HS 0 _ rfl, HX.out _ HS 1 _ rfl⟩
          clear hK K
          try simp only [Act.put, List.setIfInBounds_toArray, List.set_cons_zero, List.set_cons_succ]
          refine wpAnyH_take (i := 4) (oi := ⟨some 18, .binOp .neq 4 (.tmp 15) (.tmp 17) 4, 4, "law.go:94", #[⟨1, .data⟩, ⟨3, .data⟩], none⟩) (v := .bool false) rfl (by kernel_rfl) (by kernel_rfl) (by kernel_rfl) (fun _ _ _ h => h) (Or.inl ⟨by rfl, ?_⟩) (by assumption) ?_
          · (intro w hSw; (try dsimp only at hSw); go_simp)
          try simp only [Act.put, List.setIfInBounds_toArray, List.set_cons_zero, List.set_cons_succ]
          refine wpAnyH_done (by kernel_rfl) ?_ _
          go_wp2_with fail
          go_meet
          exact ⟨rfl, Lib.hid HS⟩
        case rest =>
          obtain ⟨rfl, HD3⟩ := hcut
          have wcc0 : wc.cell? ⟨w.heap.size, 0, none⟩ = some (.slice p rg.length c) := HX.out _ HD3.out 0 _ rfl
          have wcc1 : wc.cell? ⟨w.heap.size, 1, none⟩ = some (.slice q fs.length d) := HX.out _ HD3.out 1 _ rfl
          go_wp2_with fail
          refine (HRm.out _ (HW0.out.trans (HD3.out.mono HW0.out.size))).mono ?_
          rintro z w4 ⟨rfl, hB⟩
          have HD4 := Lib.hid (HD3.out.trans (hB.mono HD3.out.size))
          clear hB wcc0 wcc1
          have w4c0 : w4.cell? ⟨w.heap.size, 0, none⟩ = some (.slice p rg.length c) := HX.out _ HD4.out 0 _ rfl
          have w4c1 : w4.cell? ⟨w.heap.size, 1, none⟩ = some (.slice q fs.length d) := HX.out _ HD4.out 1 _ rfl
          go_wp2_with fail
          refine (HT2.out _ (HW0.out.trans (HD4.out.mono HW0.out.size))).mono ?_
          rintro z w5 ⟨rfl, hB⟩
          have HD5 := Lib.hid (HD4.out.trans (hB.mono HD4.out.size))
          clear hB
          go_wp2_with (go_at_call 14; refine (num_any _ _).mono ?_; rintro e w' ⟨rfl, rfl⟩)
          refine (HK.out _ (HW0.out.trans (HD5.out.mono HW0.out.size))).mono ?_
          rintro z wz ⟨rfl, hB'⟩
          have HBz := Lib.hid ((HW0.out.trans (HD5.out.mono HW0.out.size)).trans (hB'.mono (HW0.out.trans (HD5.out.mono HW0.out.size)).size))
          clear hB'
          go_wp2_with fail
          go_ret
          exact ⟨rfl, HBz.out⟩
    | false =>
      rw [if_neg (by decide)] at hxe
      subst hxe
      rw [if_neg (by decide)] at hxo
      subst hxo
      have e0 : (str []).toList = [] := by rw [Lib.toList_data, str_data]
      clear HT1
      go_enter Tryz.func4, Tryz.ntmps4
      go_wp2_with fail
      refine (HL.out _ HW0.out).mono ?_
      rintro z w1 ⟨rfl, hB⟩
      have HD1 := Lib.hid hB
      clear hB hW0 x0 x1
      have w1c0 : w1.cell? ⟨w.heap.size, 0, none⟩ = some (.slice p rg.length c) := HX.out _ HD1.out 0 _ rfl
      have w1c1 : w1.cell? ⟨w.heap.size, 1, none⟩ = some (.slice q fs.length d) := HX.out _ HD1.out 1 _ rfl
      go_wp2_with fail
      refine (HE.out _ (HW0.out.trans (HD1.out.mono HW0.out.size))).mono ?_
      rintro z w2 ⟨rfl, hB⟩
      have HD2 := Lib.hid (HD1.out.trans (hB.mono HD1.out.size))
      clear hB w1c0 w1c1
      go_upto_region 4 with fail
      go_cut [18] from 14 to 17 (fun s18 wx => s18 = .bool false ∧ Hid (Below W0.heap.size W0 wx))
      case first =>
        have HS : Below W0.heap.size W0 w2.drew := HD2.out.drew
        refine wp_region_held_drew (S := fun W => Below W0.heap.size W0 W ∧ W.cell? ⟨w.heap.size, 0, none⟩ = some (.slice p rg.length c) ∧ W.cell? ⟨w.heap.size, 1, none⟩ = some (.slice q fs.length d)) (by kernel_rfl) ?_ (fun hHeld => ?_)
        · exact ⟨HS, HX.out _ HS 0 _ rfl, HX.out _ HS 1 _ rfl⟩
        refine wpAnyH_take (i := 0) (oi := ⟨some 14, .load 39 (.tmp 1), 39, "law.go:94", #[], none⟩) (v := ?_) rfl (by kernel_rfl) (by kernel_rfl) (by kernel_rfl) (fun _ _ _ h => h) (Or.inl ⟨by rfl, ?_⟩) (by assumption) ?_
        rotate_left
        · (intro w hSw; (try dsimp only at hSw); go_simp; try with_reducible rfl)
        try simp only [Act.put, List.setIfInBounds_toArray, List.set_cons_zero, List.set_cons_succ]
        refine wpAnyH_take (i := 2) (oi := ⟨some 16, .load 39 (.tmp 1), 39, "law.go:94", #[], none⟩) (v := ?_) rfl (by kernel_rfl) (by kernel_rfl) (by kernel_rfl) (fun _ _ _ h => h) (Or.inl ⟨by rfl, ?_⟩) (by assumption) ?_
        rotate_left
        · (intro w hSw; (try dsimp only at hSw); go_simp; try with_reducible rfl)
        try simp only [Act.put, List.setIfInBounds_toArray, List.set_cons_zero, List.set_cons_succ]
        refine wpAnyH_ready (rs := [1]) (by kernel_rfl) (by simp) ?_
        refine AllReadyH.cons (o := ⟨some 15, .call { callee := .value (.func 18), args := #[.tmp 14], argTypes := #[39] }, 4, "law.go:94", #[⟨0, .data⟩], none⟩) rfl (fun K hK => ?_) AllReadyH.nil
        go_simp
        refine (HMy.out _ (HW0.out.trans (HS.mono HW0.out.size))).mono ?_
        rintro z wa ⟨rfl, hB'⟩
        replace HS := HS.trans (hB'.mono HS.size)
        clear hB'
        refine hK.out _ _ ?_ (fun hHeld => ?_)
        · exact ⟨HS, HX.out _ HS 0 _ rfl, HX.out _ HS 1 _ rfl⟩
        clear hK K
        try simp only [Act.put, List.setIfInBounds_toArray, List.set_cons_zero, List.set_cons_succ]
        refine wpAnyH_ready (rs := [3]) (by kernel_rfl) (by simp) ?_
        refine AllReadyH.cons (o := ⟨some 17, .call { callee := .value (.func 19), args := #[.tmp 16], argTypes := #[39] }, 4, "law.go:94", #[⟨2, .data⟩, ⟨1, .chain⟩], none⟩) rfl (fun K hK => ?_) AllReadyH.nil
        go_simp
        refine (HRm.out _ (HW0.out.trans (HS.mono HW0.out.size))).mono ?_
        rintro z wa ⟨rfl, hB'⟩
        replace HS := HS.trans (hB'.mono HS.size)
        clear hB'
        refine hK.out _ _ ?_ (fun hHeld => ?_)
        · exact ⟨HS, HX.out _ HS 0 _ rfl, HX.out _ HS 1 _ rfl⟩
        clear hK K
        try simp only [Act.put, List.setIfInBounds_toArray, List.set_cons_zero, List.set_cons_succ]
        refine wpAnyH_take (i := 4) (oi := ⟨some 18, .binOp .neq 4 (.tmp 15) (.tmp 17) 4, 4, "law.go:94", #[⟨1, .data⟩, ⟨3, .data⟩], none⟩) (v := .bool false) rfl (by kernel_rfl) (by kernel_rfl) (by kernel_rfl) (fun _ _ _ h => h) (Or.inl ⟨by rfl, ?_⟩) (by assumption) ?_
        · (intro w hSw; (try dsimp only at hSw); go_simp)
        try simp only [Act.put, List.setIfInBounds_toArray, List.set_cons_zero, List.set_cons_succ]
        refine wpAnyH_done (by kernel_rfl) ?_ _
        go_wp2_with fail
        go_meet
        exact ⟨rfl, Lib.hid HS⟩
      case rest =>
        obtain ⟨rfl, HD3⟩ := hcut
        have wcc0 : wc.cell? ⟨w.heap.size, 0, none⟩ = some (.slice p rg.length c) := HX.out _ HD3.out 0 _ rfl
        have wcc1 : wc.cell? ⟨w.heap.size, 1, none⟩ = some (.slice q fs.length d) := HX.out _ HD3.out 1 _ rfl
        go_wp2_with fail
        refine (HRm.out _ (HW0.out.trans (HD3.out.mono HW0.out.size))).mono ?_
        rintro z w4 ⟨rfl, hB⟩
        have HD4 := Lib.hid (HD3.out.trans (hB.mono HD3.out.size))
        clear hB wcc0 wcc1
        go_wp2_with (go_at_call 14; refine (num_any _ _).mono ?_; rintro e w' ⟨rfl, rfl⟩)
        refine (HK.out _ (HW0.out.trans (HD4.out.mono HW0.out.size))).mono ?_
        rintro z wz ⟨rfl, hB'⟩
        have HBz := Lib.hid ((HW0.out.trans (HD4.out.mono HW0.out.size)).trans (hB'.mono (HW0.out.trans (HD4.out.mono HW0.out.size)).size))
        clear hB'
        go_wp2_with fail
        go_ret
        exact ⟨rfl, HBz.out⟩
end Go.Proofs.YtlhbledakddbbaaGreatDoor
