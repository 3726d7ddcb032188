/- known. -/
import Derived.Test.YtnghehcjklkoeaaF1
import Derived.Test.YtnghehcjklkoeaaL2
namespace Go.Proofs.Ytnghehcjklkoeaa
open Go.RowKit

theorem may_of (x : Prg) (s : PrgP) (N r : Nat) (w : World) (hr : mayR x = r) (h : x.Ok w N s.p s.q) (hN : N ≤ w.heap.size) (hc : x.regs.length ≤ s.c) (hd : x.fns.length ≤ s.d) :
    Calls Try.prog 14 #[.agg #[.slice s.p x.regs.length s.c, .slice s.q x.fns.length s.d]] w fun z w' => z = .returned (.int .i64 (r : Int)) ∧ Below w.heap.size w w' := by
  rw [← hr]; exact may_any x s N w h hN hc hd
/-- one function over a row of statements, then May -/
theorem may_one (l : Sts) (q : Option Addr) (c N r : Nat) (w w1 : World) (hr : mayR (oneP l) = r) (hA : OneAt w1 w.heap.size l q c 2) (hs : w1.heap.size = w.heap.size + 1 + 1 + 1) (hB : Below w.heap.size w w1) (hl : l.In w N q) (hN : N ≤ w.heap.size) :
    Calls Try.prog 14 #[.agg #[.slice none 0 0, .slice (some ⟨w.heap.size + 1 + 1, 0, none⟩) 1 1]] w1 fun z w' => z = .returned (.int .i64 (r : Int)) ∧ Below w1.heap.size w1 w' :=
  may_of (oneP l) (oneS w.heap.size) (w.heap.size + 1 + 1 + 1) r w1 hr (hA.ok (hl.later (hB.mono hN) (Nat.le_refl N)) (by omega)) (by omega) (Nat.zero_le _) (Nat.le_refl 1)
theorem regs_in {w : World} {b N : Nat} {t : TypeId} (h : w.heap[b]? = some (.cells #[.string (str [97]), .int .i64 0, .int .i64 1, .bool false, .string (str [97]), .int .i64 8, .int .i64 1, .bool false] t (0, 0))) (hb : b < N) : RowIn N (Rgn.At w) 4 [rgA 0, rgA 8] (some ⟨b, 0, none⟩) := by
  have v0 := cell_blk h (j := 0) rfl
  have v1 := cell_blk h (j := 1) rfl
  have v2 := cell_blk h (j := 2) rfl
  have v3 := cell_blk h (j := 3) rfl
  have v4 := cell_blk h (j := 4) rfl
  have v5 := cell_blk h (j := 5) rfl
  have v6 := cell_blk h (j := 6) rfl
  have v7 := cell_blk h (j := 7) rfl
  exact ⟨by decide, .inr ⟨b, 0, rfl, hb, ⟨v0, v1, v2, v3⟩, ⟨v4, v5, v6, v7⟩, trivial⟩⟩
theorem reg_in {w : World} {b N : Nat} {t : TypeId} (h : w.heap[b]? = some (.cells #[.string (str [97]), .int .i64 4, .int .i64 1, .bool false] t (0, 0))) (hb : b < N) : RowIn N (Rgn.At w) 4 [rgA 4] (some ⟨b, 0, none⟩) := by
  have v0 := cell_blk h (j := 0) rfl
  have v1 := cell_blk h (j := 1) rfl
  have v2 := cell_blk h (j := 2) rfl
  have v3 := cell_blk h (j := 3) rfl
  exact ⟨by decide, .inr ⟨b, 0, rfl, hb, ⟨v0, v1, v2, v3⟩, trivial⟩⟩
/-- regions, and one function without statements -/
theorem may_regs (l : List Rgn) (p : Option Addr) (g r : Nat) (w : World) (hr : mayR ⟨l, (oneP .nil).fns⟩ = r) (hp : RowIn w.heap.size (Rgn.At w) 4 l p) (hA : OneAt w g .nil none 0 2) (hs : g + 1 + 1 + 1 ≤ w.heap.size) :
    Calls Try.prog 14 #[.agg #[.slice p l.length l.length, .slice (some ⟨g + 1 + 1, 0, none⟩) 1 1]] w fun z w' => z = .returned (.int .i64 (r : Int)) ∧ Below w.heap.size w w' :=
  may_of ⟨l, (oneP .nil).fns⟩ ⟨p, some ⟨g + 1 + 1, 0, none⟩, l.length, 1⟩ w.heap.size r w hr ⟨hp, ((hA.ok (N := 0) ⟨Nat.zero_le _, .inl rfl⟩ (Nat.zero_le _)).later (Below.refl _ _) hs).2⟩ (Nat.le_refl _) (Nat.le_refl _) (Nat.le_refl 1)
theorem OneAt.later {w w' : World} {g : Nat} {l : Sts} {q : Option Addr} {c : Nat} {z : Int} (h : OneAt w g l q c z) {N : Nat} (hB : Below N w w') (hN : g + 1 + 1 + 1 ≤ N) : OneAt w' g l q c z :=
  ⟨(hB.block _ (by omega)).trans h.v, (hB.block _ (by omega)).trans h.f⟩
/-- one assignment of a constant, then May -/
theorem one_asg (nm : List UInt8) (v : Nat) (r : Nat) (W : World) (hr : mayR (asgP nm v) = r) (hv : v < 18446744073709551616) :
    Calls Try.prog 15 #[.slice (some ⟨W.heap.size, 0, none⟩) 1 1] (W.alloc (.cells #[.int .i64 1, .string (str nm), .slice none 0 0, .int .i64 1, .int .u64 (v : Int), .string (str []), .slice none 0 0, .int .i64 0, .int .u64 0, .string (str []), .slice none 0 0, .slice none 0 0, .int .u64 0, .int .u64 0, .slice none 0 0, .slice none 0 0] 49)) fun z w' =>
      z = .returned (.agg #[.slice none 0 0, .slice (some ⟨W.heap.size + 1 + 1 + 1, 0, none⟩) 1 1]) ∧
      Calls Try.prog 14 #[.agg #[.slice none 0 0, .slice (some ⟨W.heap.size + 1 + 1 + 1, 0, none⟩) 1 1]] w' (fun z w'' => z = .returned (.int .i64 (r : Int)) ∧ Below w'.heap.size w' w'') ∧ Below W.heap.size W w' := by
  obtain ⟨w5, hw5, kr, hB5, hz5⟩ := one_alloc W (.cells #[.int .i64 1, .string (str nm), .slice none 0 0, .int .i64 1, .int .u64 (v : Int), .string (str []), .slice none 0 0, .int .i64 0, .int .u64 0, .string (str []), .slice none 0 0, .slice none 0 0, .int .u64 0, .int .u64 0, .slice none 0 0, .slice none 0 0] 49)
  rw [hw5]
  have hl : Sts.In w5 (W.heap.size + 1) (.cons (mkSt 1 nm (.mk 1 v [] .nil) .nil) .nil) (some ⟨W.heap.size, 0, none⟩) := st_in (pe := none) (ce := 0) (pb := none) (cb := 0) kr (Nat.lt_succ_self _) hv ⟨Nat.zero_le _, .inl rfl⟩ ⟨Nat.zero_le _, .inl rfl⟩
  refine (one_any (.cons (mkSt 1 nm (.mk 1 v [] .nil) .nil) .nil) (some ⟨W.heap.size, 0, none⟩) 1 w5).mono ?_
  rintro z w6 ⟨rfl, hA, hs, hB⟩
  have hM := may_one _ _ 1 (W.heap.size + 1) r w5 w6 hr hA hs hB hl (by omega)
  rw [hz5] at hM ⊢
  exact ⟨rfl, hM, hB5.trans (hB.mono (by omega))⟩
set_option maxRecDepth 100000 in
set_option maxHeartbeats 6400000 in
theorem known_any (w : World) :
    Calls Try.prog 7 #[] w fun z w' => z = .returned (.bool true) ∧ Below w.heap.size w w' := by
  obtain ⟨W0, hW0, k0, hB0, hz0⟩ := one_alloc w (.cells #[.string (str [97]), .int .i64 0, .int .i64 1, .bool false] 58)
  have hz : ∀ (W : World) (N : Nat), Sts.In W N .nil none := fun _ _ => ⟨Nat.zero_le _, .inl rfl⟩
  have HZ := Lib.hid hz
  have HB0 := Lib.hid hB0
  have HK := Lib.hid k0
  have HW0 := Lib.hid hW0
  have HZ0 := Lib.hid hz0
  clear hW0 k0 hB0 hz hz0
  go_enter Try.func7, Try.ntmps7
  go_wp2_with fail
  erw [HW0.out]
  refine (one_any .nil none 0 W0).mono ?_
  rintro z w1 ⟨rfl, hA, hs, hB⟩
  have HM := Lib.hid (may_one .nil none 0 0 0 W0 w1 r1 hA hs hB (HZ.out W0 0) (Nat.zero_le _))
  have HB1 := Lib.hid hB
  clear hA hs hB
  go_wp2_with fail
  refine HM.out.mono ?_
  rintro z w2 ⟨rfl, hB⟩
  have HB2 := Lib.hid (HB1.out.trans (hB.mono HB1.out.size))
  clear hB HM
  go_wp2_with fail
  have HM := Lib.hid (may_of ⟨[], []⟩ ⟨none, none, 0, 0⟩ 0 13 w2 r2 ⟨⟨Nat.zero_le _, .inl rfl⟩, ⟨Nat.zero_le _, .inl rfl⟩⟩ (Nat.zero_le _) (Nat.le_refl 0) (Nat.le_refl 0))
  refine HM.out.mono ?_
  rintro z w3 ⟨rfl, hB⟩
  have HB3 := Lib.hid (HB2.out.trans (hB.mono HB2.out.size))
  clear hB HM
  go_upto_region 4 with fail
  have HKeep := Lib.hid (fun (W : World) (hB : Below W0.heap.size W0 W) => show W.cell? ⟨w.heap.size, 0, none⟩ = some (.string (str [97])) ∧ W.cell? ⟨w.heap.size, 1, none⟩ = some (.int .i64 0) ∧ W.cell? ⟨w.heap.size, 2, none⟩ = some (.int .i64 1) ∧ W.cell? ⟨w.heap.size, 3, none⟩ = some (.bool false) from
    have k := (hB.block _ (lt_blk HK.out)).trans HK.out
    ⟨cell_blk k rfl, cell_blk k rfl, cell_blk k rfl, cell_blk k rfl⟩)
  go_cut [4] from 14 to 20 (fun t4 wx => t4 = .int .i64 8 ∧ Hid (Below W0.heap.size W0 wx))
  case first =>
    refine wp_region_held_drew (S := fun W => W.cell? ⟨w.heap.size, 0, none⟩ = some (.string (str [97])) ∧ W.cell? ⟨w.heap.size, 1, none⟩ = some (.int .i64 0) ∧ W.cell? ⟨w.heap.size, 2, none⟩ = some (.int .i64 1) ∧ W.cell? ⟨w.heap.size, 3, none⟩ = some (.bool false)) (by kernel_rfl) ?_ (fun hHeld => ?_)
    · exact HKeep.out _ HB3.out.drew
    refine tk 0 ?_ rfl (.inl ⟨by rfl, ?_⟩) ?_
    rotate_left
    · (intro w hSw; (try dsimp only at hSw); go_simp; try with_reducible rfl)
    try simp only [Act.put, List.setIfInBounds_toArray, List.set_cons_zero, List.set_cons_succ]
    refine tk 1 ?_ rfl (.inl ⟨by rfl, ?_⟩) ?_
    rotate_left
    · (intro w hSw; (try dsimp only at hSw); go_simp; try with_reducible rfl)
    try simp only [Act.put, List.setIfInBounds_toArray, List.set_cons_zero, List.set_cons_succ]
    refine wpAnyH_ready (rs := [2, 3]) (by kernel_rfl) (by simp) ?_
    refine rdy rfl (fun K hK => ?_) (rdy rfl (fun K hK => ?_) AllReadyH.nil)
    · go_simp
      obtain ⟨w4, hw4, kr, hB4, hz4⟩ := one_alloc w3.drew (.cells #[.string (str [97]), .int .i64 0, .int .i64 1, .bool false, .string { data := #[97] }, .int .i64 8, .int .i64 1, .bool false] 58)
      rw [show (w3.alloc (.cells #[.string (str [97]), .int .i64 0, .int .i64 1, .bool false, .string { data := #[97] }, .int .i64 8, .int .i64 1, .bool false] 58)).drew = w4 from hw4]
      have hX := HB3.out.drew.trans (hB4.mono HB3.out.drew.size)
      clear hw4 hB4 hz4
      refine hK.out _ _ ?_ (fun hHeld => ?_)
      · exact HKeep.out _ hX
      clear hK K
      try simp only [Act.put, List.setIfInBounds_toArray, List.set_cons_zero, List.set_cons_succ]
      refine wpAnyH_ready (rs := [3]) (by kernel_rfl) (by simp) ?_
      refine rdy rfl (fun K hK => ?_) AllReadyH.nil
      go_simp
      refine (one_any .nil none 0 w4).mono ?_
      rintro z w5 ⟨rfl, hA, hs, hB⟩
      have kr := (hB.block _ (lt_blk kr)).trans kr
      have HM := Lib.hid (may_regs [rgA 0, rgA 8] _ w4.heap.size 8 w5 r3 (regs_in kr (lt_blk kr)) hA (by omega))
      replace hX := hX.trans (hB.mono hX.size)
      clear hA hs hB kr
      refine hK.out _ _ ?_ (fun hHeld => ?_)
      · (try dsimp only); exact HKeep.out _ hX
      clear hK K
      try simp only [Act.put, List.setIfInBounds_toArray, List.set_cons_zero, List.set_cons_succ]
      refine tk 4 (.slice (some ⟨w4.heap.size + 1 + 1, 0, none⟩) 1 1) rfl (.inl ⟨by rfl, ?_⟩) ?_
      · (intro w hSw; (try dsimp only at hSw); go_simp; try rfl)
      try simp only [Act.put, List.setIfInBounds_toArray, List.set_cons_zero, List.set_cons_succ]
      refine tk 5 (.agg #[.slice (some ⟨w3.heap.size, 0, none⟩) 2 2, .slice (some ⟨w4.heap.size + 1 + 1, 0, none⟩) 1 1]) rfl (.inl ⟨by rfl, ?_⟩) ?_
      · (intro w hSw; (try dsimp only at hSw); go_simp; try rfl)
      try simp only [Act.put, List.setIfInBounds_toArray, List.set_cons_zero, List.set_cons_succ]
      refine wpAnyH_ready (rs := [6]) (by kernel_rfl) (by simp) ?_
      refine rdy rfl (fun K hK => ?_) AllReadyH.nil
      go_simp
      refine HM.out.mono ?_
      rintro z w5 ⟨rfl, hB⟩
      have HX := Lib.hid (hX.trans (hB.mono hX.size))
      refine hK.out _ _ ?_ (fun hHeld => ?_)
      · (try dsimp only); exact HKeep.out _ HX.out
      clear hK K
      try simp only [Act.put, List.setIfInBounds_toArray, List.set_cons_zero, List.set_cons_succ]
      refine wpAnyH_ready (rs := [7]) (by kernel_rfl) (by simp) ?_
      refine rdy rfl (fun K hK => ?_) AllReadyH.nil
      go_simp
      skip
      refine hK.out _ _ ?_ (fun hHeld => ?_)
      · (try dsimp only); exact HKeep.out _ HX.out
      clear hK K
      try simp only [Act.put, List.setIfInBounds_toArray, List.set_cons_zero, List.set_cons_succ]
      refine wpAnyH_done (by kernel_rfl) ?_ _
      clear hX hB HM
      go_wp2_with fail
      go_meet
      exact ⟨rfl, HX⟩
    · go_simp
      refine (one_any .nil none 0 w3.drew).mono ?_
      rintro z w4 ⟨rfl, hA, hs, hB⟩
      have HS := Lib.hid (show w4.heap.size = w3.heap.size + 1 + 1 + 1 from hs)
      clear hs
      have hX := HB3.out.drew.trans (hB.mono HB3.out.drew.size)
      refine hK.out _ _ ?_ (fun hHeld => ?_)
      · exact HKeep.out _ hX
      clear hK K
      try simp only [Act.put, List.setIfInBounds_toArray, List.set_cons_zero, List.set_cons_succ]
      refine tk 4 (.slice (some ⟨w3.heap.size + 1 + 1, 0, none⟩) 1 1) rfl (.inl ⟨by rfl, ?_⟩) ?_
      · (intro w hSw; (try dsimp only at hSw); go_simp; try rfl)
      try simp only [Act.put, List.setIfInBounds_toArray, List.set_cons_zero, List.set_cons_succ]
      refine wpAnyH_ready (rs := [2]) (by kernel_rfl) (by simp) ?_
      refine rdy rfl (fun K hK => ?_) AllReadyH.nil
      go_simp
      obtain ⟨w5, hw5, kr, hB5, hz5⟩ := one_alloc w4 (.cells #[.string (str [97]), .int .i64 0, .int .i64 1, .bool false, .string { data := #[97] }, .int .i64 8, .int .i64 1, .bool false] 58)
      rw [hw5]
      have HM := Lib.hid (may_regs [rgA 0, rgA 8] _ w3.drew.heap.size 8 w5 r3 (regs_in kr (lt_blk kr)) (hA.later hB5 (Nat.le_of_eq HS.out.symm)) (by have := HS.out; have : w3.drew.heap.size = w3.heap.size := rfl; omega))
      replace hX := hX.trans (hB5.mono hX.size)
      clear hA hB kr hw5 hB5 hz5
      refine hK.out _ _ ?_ (fun hHeld => ?_)
      · (try dsimp only); exact HKeep.out _ hX
      clear hK K
      try simp only [Act.put, List.setIfInBounds_toArray, List.set_cons_zero, List.set_cons_succ]
      refine tk 5 (.agg #[.slice (some ⟨w4.heap.size, 0, none⟩) 2 2, .slice (some ⟨w3.heap.size + 1 + 1, 0, none⟩) 1 1]) rfl (.inl ⟨by rfl, ?_⟩) ?_
      · (intro w hSw; (try dsimp only at hSw); go_simp; try rfl)
      try simp only [Act.put, List.setIfInBounds_toArray, List.set_cons_zero, List.set_cons_succ]
      refine wpAnyH_ready (rs := [6]) (by kernel_rfl) (by simp) ?_
      refine rdy rfl (fun K hK => ?_) AllReadyH.nil
      go_simp
      refine HM.out.mono ?_
      rintro z w5 ⟨rfl, hB⟩
      have HX := Lib.hid (hX.trans (hB.mono hX.size))
      refine hK.out _ _ ?_ (fun hHeld => ?_)
      · (try dsimp only); exact HKeep.out _ HX.out
      clear hK K
      try simp only [Act.put, List.setIfInBounds_toArray, List.set_cons_zero, List.set_cons_succ]
      refine wpAnyH_ready (rs := [7]) (by kernel_rfl) (by simp) ?_
      refine rdy rfl (fun K hK => ?_) AllReadyH.nil
      go_simp
      skip
      refine hK.out _ _ ?_ (fun hHeld => ?_)
      · (try dsimp only); exact HKeep.out _ HX.out
      clear hK K
      try simp only [Act.put, List.setIfInBounds_toArray, List.set_cons_zero, List.set_cons_succ]
      refine wpAnyH_done (by kernel_rfl) ?_ _
      clear hX hB HM
      go_wp2_with fail
      go_meet
      exact ⟨rfl, HX⟩
  case rest =>
    obtain ⟨rfl, HX⟩ := hcut
    obtain ⟨w5, hw5, kr, hB5, hz5⟩ := one_alloc wc (.cells #[.string { data := #[97] }, .int .i64 4, .int .i64 1, .bool false] 58)
    have HW5 := Lib.hid hw5
    have HX5 := Lib.hid (HX.out.trans (hB5.mono HX.out.size))
    have HKr := Lib.hid kr
    clear hw5 kr hB5 hz5
    go_wp2_with fail
    rw [HW5.out]
    refine (one_any .nil none 0 w5).mono ?_
    rintro z w6 ⟨rfl, hA, hs, hB⟩
    have HM := Lib.hid (may_regs [rgA 4] _ w5.heap.size 14 w6 r4 (reg_in ((hB.block _ (lt_blk HKr.out)).trans HKr.out) (by have := lt_blk HKr.out; omega)) hA (by omega))
    have HX6 := Lib.hid (HX5.out.trans (hB.mono HX5.out.size))
    clear hA hs hB
    have hfd : ∀ (p q : Option Addr) (n m c d : Nat) (W : World), Sem.run Try.prog (Instr.field 25 (.agg #[.slice p n c, .slice q m d]) 1) W = .ok (.slice q m d) W := fun _ _ _ _ _ _ _ => rfl
    go_wp2_with fail
    refine HM.out.mono ?_
    rintro z w7 ⟨rfl, hB⟩
    have HX7 := Lib.hid (HX6.out.trans (hB.mono HX6.out.size))
    clear hB HM
    go_wp2_with fail
    refine (one_asg [121] 0 8 w7 r5 (by decide)).mono ?_
    rintro z w8 ⟨rfl, hM, hB⟩
    have HM := Lib.hid hM
    have HX8 := Lib.hid (HX7.out.trans (hB.mono HX7.out.size))
    clear hM hB
    go_wp2_with fail
    refine HM.out.mono ?_
    rintro z w9 ⟨rfl, hB⟩
    have HX9 := Lib.hid (HX8.out.trans (hB.mono HX8.out.size))
    clear hB HM
    go_wp2_with fail
    refine (one_asg [114] 0 9 w9 r6 (by decide)).mono ?_
    rintro z w10 ⟨rfl, hM, hB⟩
    have HM := Lib.hid hM
    have HX10 := Lib.hid (HX9.out.trans (hB.mono HX9.out.size))
    clear hM hB
    go_wp2_with fail
    refine HM.out.mono ?_
    rintro z w11 ⟨rfl, hB⟩
    have HX11 := Lib.hid (HX10.out.trans (hB.mono HX10.out.size))
    clear hB HM
    go_wp2_with fail
    refine (one_asg [120] 3 0 w11 r7 (by decide)).mono ?_
    rintro z w12 ⟨rfl, hM, hB⟩
    have HM := Lib.hid hM
    have HX12 := Lib.hid (HX11.out.trans (hB.mono HX11.out.size))
    clear hM hB
    go_wp2_with fail
    refine HM.out.mono ?_
    rintro z w13 ⟨rfl, hB⟩
    have HX13 := Lib.hid (HX12.out.trans (hB.mono HX12.out.size))
    clear hB HM
    go_wp2_with fail
    go_ret
    exact ⟨rfl, HB0.out.trans (HX13.out.mono HB0.out.size)⟩
end Go.Proofs.Ytnghehcjklkoeaa
