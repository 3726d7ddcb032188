/- ScopeSame: the walk. -/
import Derived.Test.YtnghehcjklkoeaaPN
import Derived.Test.YtnghehcjklkoeaaPA
import Derived.Test.YtnghehcjklkoeaaDE
import Derived.Test.YtnghehcjklkoeaaL3
namespace Go.Proofs.Ytnghehcjklkoeaa
open Go.RowKit

theorem Spl.below {S : Nat → Bool} {w w' : World} {N : Nat} (h : Spl S w w') (hN : N ≤ w.heap.size) (hS : ∀ k, k < N → S k = false) : Below N w w' :=
  ⟨h.os, h.tape, h.output, h.size, fun k hk => h.block k (Nat.lt_of_lt_of_le hk hN) (hS k hk)⟩
theorem Prg.Ok.le {w w' : World} {N M : Nat} {x : Prg} {p q : Option Addr} (h : x.Ok w N p q) (hw : Le w w') (hM : N ≤ M) : x.Ok w' M p q := mono_prg x p q _ _ _ _ h hw hM
theorem eqB_self {α : Type} (x : α) : eqB x x = true := (eqB_true rfl).symm
set_option maxRecDepth 100000 in
set_option maxHeartbeats 6400000 in
theorem law_same (x y : Prg) (s t : PrgP) (N : Nat) (w : World) (hx : x.Ok w N s.p s.q) (hy : y.Ok w N t.p t.q) (hN : N ≤ w.heap.size) (hrx : x.regs.length ≤ 1048576) (hbx : fnsBig x.fns ≤ 1048576) (hby : fnsBig y.fns ≤ 1048576) :
    Calls Try.prog 3 #[x.v s, y.v t] w fun z w' => z = .returned (.bool true) ∧ Below w.heap.size w w' := by
  have HSx := Lib.hid (fun (W : World) (hB : Below w.heap.size w W) => small_any x s N W (hx.later (hB.mono hN) (Nat.le_refl N)) (Nat.le_trans hN hB.size) (by omega))
  have HSy := Lib.hid (fun (W : World) (hB : Below w.heap.size w W) => small_any y t N W (hy.later (hB.mono hN) (Nat.le_refl N)) (Nat.le_trans hN hB.size) (by omega))
  have HXO := Lib.hid (fun (W : World) (hB : Below w.heap.size w W) => show x.Ok W W.heap.size s.p s.q from hx.later (hB.mono hN) (Nat.le_trans hN hB.size))
  have HYO := Lib.hid (fun (W : World) (hB : Below w.heap.size w W) => show y.Ok W W.heap.size t.p t.q from hy.later (hB.mono hN) (Nat.le_trans hN hB.size))
  have HS1 := Lib.hid (fun (W : World) (hB : Below w.heap.size w W) => same_any x y s.p s.q t.p t.q s.c s.d t.c t.d W.heap.size W (HXO.out W hB) (HYO.out W hB) (Nat.le_refl _))
  have HS2 := Lib.hid (fun (W : World) (hB : Below w.heap.size w W) => rSame_any x y s.p s.q t.p t.q s.c s.d t.c t.d W.heap.size W (HXO.out W hB) (HYO.out W hB) (Nat.le_refl _))
  have HS3 := Lib.hid (fun (W : World) (hB : Below w.heap.size w W) => same_any x x s.p s.q s.p s.q s.c s.d s.c s.d W.heap.size W (HXO.out W hB) (HXO.out W hB) (Nat.le_refl _))
  have HRS := Lib.hid (fun (W : World) (p q p' q' : Option Addr) (c d c' d' : Nat) (h : x.Ok W W.heap.size p q) (h' : x.Ok W W.heap.size p' q') => show Calls Try.prog 9 #[x.val p q c d, x.val p' q' c' d'] W fun e w' => e = .returned (.bool true) ∧ Below W.heap.size W w' from by
    have := rSame_any x x p q p' q' c d c' d' W.heap.size W h h' (Nat.le_refl _)
    rw [eqB_self] at this; exact this)
  have HCl := Lib.hid (fun (W : World) (p q : Option Addr) (c d : Nat) (h : x.Ok W W.heap.size p q) => clone_any x p q c d W.heap.size W h (Nat.le_refl _) hrx hbx)
  have HSp := Lib.hid (fun (W : World) (p q : Option Addr) (c d M : Nat) (S : Nat → Bool) (h : x.Ok (cut S W) M p q) (hM : M ≤ W.heap.size) (hW : Wr S M W) => spoil_any x p q c d M S W h hM hW)
  clear hx hy hN hrx hbx hby
  obtain ⟨p, q, c, d⟩ := s
  obtain ⟨p', q', c', d'⟩ := t
  obtain ⟨W0, hW0, k0, k1, hB0, hz0⟩ := two_alloc w (.cells #[.slice p x.regs.length c, .slice q x.fns.length d] 25) (.cells #[.slice p' y.regs.length c', .slice q' y.fns.length d'] 25)
  have HU := Lib.hid (fun (W : World) (hB : Below W0.heap.size W0 W) => show Below w.heap.size w W from hB0.trans (hB.mono (by omega)))
  have HZ := Lib.hid (show w.heap.size + 2 = W0.heap.size from hz0.symm)
  have HP := Lib.hid (fun (W : World) (hB : Below W0.heap.size W0 W) => show W.cell? ⟨w.heap.size, 0, none⟩ = some (.slice p x.regs.length c) ∧ W.cell? ⟨w.heap.size, 1, none⟩ = some (.slice q x.fns.length d) ∧ W.cell? ⟨w.heap.size + 1, 0, none⟩ = some (.slice p' y.regs.length c') ∧ W.cell? ⟨w.heap.size + 1, 1, none⟩ = some (.slice q' y.fns.length d') from
    ⟨cell_blk ((hB.block _ (lt_blk k0)).trans k0) rfl, cell_blk ((hB.block _ (lt_blk k0)).trans k0) rfl, cell_blk ((hB.block _ (lt_blk k1)).trans k1) rfl, cell_blk ((hB.block _ (lt_blk k1)).trans k1) rfl⟩)
  unfold Prg.v at HSx HSy ⊢
  unfold Prg.val at HS1 HS2 HS3 HRS HCl HSp
  dsimp only at HSx HSy HS1 HS2 HS3 HXO HYO ⊢
  obtain ⟨p0, p1, p2, p3⟩ := HP.out W0 (Below.refl _ _)
  have HX := Lib.hid (Below.refl W0.heap.size W0)
  have HC := Lib.hid (HSx.out _ (HU.out _ HX.out))
  generalize x.regs.length = nr at HSx HSy HS1 HS2 HS3 HRS HCl HSp HP p0 p1 hW0 k0 HC ⊢
  generalize x.fns.length = nf at HSx HSy HS1 HS2 HS3 HRS HCl HSp HP p0 p1 hW0 k0 HC ⊢
  generalize y.regs.length = mr at HSx HSy HS1 HS2 HS3 HRS HCl HSp HP p2 p3 hW0 k1 HC ⊢
  generalize y.fns.length = mf at HSx HSy HS1 HS2 HS3 HRS HCl HSp HP p2 p3 hW0 k1 HC ⊢
  clear k0 k1 hB0 hz0 HSx HYO
  have HKN : Hid (∀ W, Below w.heap.size w W → Calls Try.prog 7 #[] W fun z w' => z = .returned (.bool true) ∧ Below w.heap.size w w') := Lib.hid fun W hB => (known_any W).mono fun z w' h => ⟨h.1, hB.trans (h.2.mono hB.size)⟩
  go_enter Try.func3, Try.ntmps3
  go_wp2_with fail
  refine HC.out.mono ?_
  rintro z w1 ⟨⟨b, rfl⟩, hB1⟩
  replace HX := Lib.hid (HX.out.trans (hB1.mono HX.out.size))
  clear hB1 HC hW0 p0 p1 p2 p3
  obtain ⟨p0, p1, p2, p3⟩ := HP.out w1 HX.out
  cases b
  · have HC := Lib.hid (HKN.out _ (HU.out _ HX.out))
    go_wp2_with fail
    refine HC.out.mono ?_
    rintro z w2 ⟨rfl, hB2⟩
    have HB2 := Lib.hid hB2
    clear hB2 HC
    go_wp2_with fail
    go_ret
    exact ⟨rfl, HB2.out⟩
  have HC := Lib.hid (HSy.out _ (HU.out _ HX.out))
  go_wp2_with fail
  refine HC.out.mono ?_
  rintro z w2 ⟨⟨b, rfl⟩, hB1⟩
  replace HX := Lib.hid (HX.out.trans (hB1.mono HX.out.size))
  clear hB1 HC p0 p1 p2 p3 HSy
  cases b
  · have HC := Lib.hid (HKN.out _ (HU.out _ HX.out))
    go_wp2_with fail
    refine HC.out.mono ?_
    rintro z w3 ⟨rfl, hB2⟩
    have HB2 := Lib.hid hB2
    clear hB2 HC
    go_wp2_with fail
    go_ret
    exact ⟨rfl, HB2.out⟩
  go_upto_region 3 with fail
  have hX : Below W0.heap.size W0 w2.drew := HX.out.drew
  have HC := Lib.hid (HS1.out _ (HU.out _ hX))
  have hbq : (eqB x y != eqB x y) = false := by simp
  have hxx : eqB x x = true := eqB_self x
  generalize eqB x y = E at hbq HC HS2 HS1
  refine wp_region_held_drew (S := fun W => W.cell? ⟨w.heap.size, 0, none⟩ = some (.slice p nr c) ∧ W.cell? ⟨w.heap.size, 1, none⟩ = some (.slice q nf d) ∧ W.cell? ⟨w.heap.size + 1, 0, none⟩ = some (.slice p' mr c') ∧ W.cell? ⟨w.heap.size + 1, 1, none⟩ = some (.slice q' mf d')) (by kernel_rfl) ?_ (fun hHeld => ?_)
  · exact HP.out _ hX
  refine tk 0 ?_ rfl (.inl ⟨by rfl, ?_⟩) ?_
  rotate_left
  · (intro w hSw; (try dsimp only at hSw); go_simp; try with_reducible rfl)
  try simp only [Act.put, List.setIfInBounds_toArray, List.set_cons_zero, List.set_cons_succ]
  refine tk 1 ?_ rfl (.inl ⟨by rfl, ?_⟩) ?_
  rotate_left
  · (intro w hSw; (try dsimp only at hSw); go_simp; try with_reducible rfl)
  try simp only [Act.put, List.setIfInBounds_toArray, List.set_cons_zero, List.set_cons_succ]
  refine tk 3 ?_ rfl (.inl ⟨by rfl, ?_⟩) ?_
  rotate_left
  · (intro w hSw; (try dsimp only at hSw); go_simp; try with_reducible rfl)
  try simp only [Act.put, List.setIfInBounds_toArray, List.set_cons_zero, List.set_cons_succ]
  refine tk 4 ?_ rfl (.inl ⟨by rfl, ?_⟩) ?_
  rotate_left
  · (intro w hSw; (try dsimp only at hSw); go_simp; try with_reducible rfl)
  try simp only [Act.put, List.setIfInBounds_toArray, List.set_cons_zero, List.set_cons_succ]
  refine wpAnyH_ready (rs := [2]) (by kernel_rfl) (by simp) ?_
  refine rdy rfl (fun K hK => ?_) AllReadyH.nil
  go_simp
  refine HC.out.mono ?_
  rintro z w3 ⟨rfl, hB5⟩
  replace hX := hX.trans (hB5.mono hX.size)
  clear hB5 HC
  have HC2 := Lib.hid (HS2.out _ (HU.out _ hX))
  refine hK.out _ _ ?_ (fun hHeld => ?_)
  · exact HP.out _ hX
  clear hK K
  try simp only [Act.put, List.setIfInBounds_toArray, List.set_cons_zero, List.set_cons_succ]
  refine wpAnyH_ready (rs := [5]) (by kernel_rfl) (by simp) ?_
  refine rdy rfl (fun K hK => ?_) AllReadyH.nil
  go_simp
  refine HC2.out.mono ?_
  rintro z w4 ⟨rfl, hB5⟩
  replace hX := hX.trans (hB5.mono hX.size)
  clear hB5 HC2
  have HC3 := Lib.hid (HS3.out _ (HU.out _ hX))
  rw [hxx] at HC3
  refine hK.out _ _ ?_ (fun hHeld => ?_)
  · exact HP.out _ hX
  clear hK K
  try simp only [Act.put, List.setIfInBounds_toArray, List.set_cons_zero, List.set_cons_succ]
  refine tk 6 (.bool false) rfl (.inl ⟨by rfl, ?_⟩) ?_
  · (intro w hSw; (try dsimp only at hSw); go_simp)
  try simp only [Act.put, List.setIfInBounds_toArray, List.set_cons_zero, List.set_cons_succ]
  refine tk 7 ?_ rfl (.inl ⟨by rfl, ?_⟩) ?_
  rotate_left
  · (intro w hSw; (try dsimp only at hSw); go_simp; try with_reducible rfl)
  try simp only [Act.put, List.setIfInBounds_toArray, List.set_cons_zero, List.set_cons_succ]
  refine tk 8 ?_ rfl (.inl ⟨by rfl, ?_⟩) ?_
  rotate_left
  · (intro w hSw; (try dsimp only at hSw); go_simp; try with_reducible rfl)
  try simp only [Act.put, List.setIfInBounds_toArray, List.set_cons_zero, List.set_cons_succ]
  refine tk 9 ?_ rfl (.inl ⟨by rfl, ?_⟩) ?_
  rotate_left
  · (intro w hSw; (try dsimp only at hSw); go_simp; try with_reducible rfl)
  try simp only [Act.put, List.setIfInBounds_toArray, List.set_cons_zero, List.set_cons_succ]
  refine wpAnyH_ready (rs := [10]) (by kernel_rfl) (by simp) ?_
  refine rdy rfl (fun K hK => ?_) AllReadyH.nil
  go_simp
  refine HC3.out.mono ?_
  rintro z w5 ⟨rfl, hB5⟩
  replace hX := hX.trans (hB5.mono hX.size)
  clear hB5 HC3
  refine hK.out _ _ ?_ (fun hHeld => ?_)
  · exact HP.out _ hX
  clear hK K
  try simp only [Act.put, List.setIfInBounds_toArray, List.set_cons_zero, List.set_cons_succ]
  refine tk 11 ?_ rfl (.inl ⟨by rfl, ?_⟩) ?_
  rotate_left
  · (intro w hSw; (try dsimp only at hSw); go_simp; try with_reducible rfl)
  try simp only [Act.put, List.setIfInBounds_toArray, List.set_cons_zero, List.set_cons_succ]
  refine tk 12 ?_ rfl (.inl ⟨by rfl, ?_⟩) ?_
  rotate_left
  · (intro w hSw; (try dsimp only at hSw); go_simp; try with_reducible rfl)
  try simp only [Act.put, List.setIfInBounds_toArray, List.set_cons_zero, List.set_cons_succ]
  refine wpAnyH_done (by kernel_rfl) ?_ _
  replace HX := Lib.hid hX
  clear hX HS1 HS2 hbq hxx
  obtain ⟨p0, p1, p2, p3⟩ := HP.out w5 HX.out
  have HC := Lib.hid (HCl.out w5 p q c d (HXO.out w5 (HU.out _ HX.out)))
  go_wp2_with fail
  refine HC.out.mono ?_
  rintro z w6 ⟨pa, qa, ca, da, rfl, hB6, Sa, hOa, hWa, hSa⟩
  obtain ⟨w7, hw7, k7, hB7, hz7⟩ := one_alloc w6 (.cells #[.slice pa nr ca, .slice qa nf da] 25)
  have hX7 : Below W0.heap.size W0 w7 := HX.out.trans ((hB6.mono HX.out.size).trans (hB7.mono (Nat.le_trans HX.out.size hB6.size)))
  have HX7 := Lib.hid hX7
  have HSa := Lib.hid (show ∀ k, Sa k = true → W0.heap.size ≤ k ∧ k < w6.heap.size from fun k hk => ⟨Nat.le_trans HX.out.size (hSa k hk), (hWa k hk).1⟩)
  have HWa := Lib.hid (fun (W : World) (hB : Below w6.heap.size w6 W) => show x.Ok (cut Sa W) w6.heap.size pa qa ∧ Wr Sa w6.heap.size W from
    ⟨hOa.le (Le.cut2 fun k hk => ⟨hk, fun o v hv => (hB.cell (p := ⟨k, o, none⟩) (hWa k hk).1).trans hv⟩) (Nat.le_refl _), fun k hk => ⟨(hWa k hk).1, fun o => (World.frozen?_of_block (hB.block k (hWa k hk).1)).trans ((hWa k hk).2 o)⟩⟩)
  have HPa := Lib.hid (fun (W : World) (hB : Below w7.heap.size w7 W) => show W.cell? ⟨w6.heap.size, 0, none⟩ = some (.slice pa nr ca) ∧ W.cell? ⟨w6.heap.size, 1, none⟩ = some (.slice qa nf da) from
    ⟨cell_blk ((hB.block _ (lt_blk k7)).trans k7) rfl, cell_blk ((hB.block _ (lt_blk k7)).trans k7) rfl⟩)
  have H67 := Lib.hid (And.intro hB7 hz7)
  obtain ⟨a0, a1⟩ := HPa.out w7 (Below.refl _ _)
  have HC2 := Lib.hid (HCl.out w7 pa qa ca da (Prg.Ok.le (HWa.out w7 hB7).1 (Le.cut _ _) hB7.size))
  clear hOa hWa hSa hB6 hB7 hX7 HCl HC p0 p1 p2 p3 HX k7 hz7
  go_wp2_with fail
  refine HC2.out.mono ?_
  rintro z w8 ⟨pb, qb, cb, db, rfl, hB8, Sb, hOb, hWb, hSb⟩
  obtain ⟨w9, hw9, k9, hB9, hz9⟩ := one_alloc w8 (.cells #[.slice pb nr cb, .slice qb nf db] 25)
  have H79 := Lib.hid (show Below w7.heap.size w7 w9 from hB8.trans (hB9.mono hB8.size))
  have HX9 := Lib.hid (HX7.out.trans (H79.out.mono HX7.out.size))
  have HOb := Lib.hid (fun (W : World) (h : ∀ k, Sb k = true → W.heap[k]? = w8.heap[k]?) (hz : w8.heap.size ≤ W.heap.size) => show x.Ok W W.heap.size pb qb from
    hOb.le (fun k o v hv => by
      obtain ⟨h1, h2⟩ := cell_cut_some hv
      have := h k h1
      simp only [World.cell?] at h2 ⊢
      rw [this]; exact h2) hz)
  have HSb := Lib.hid (show ∀ k, Sb k = true → w7.heap.size ≤ k ∧ k < w8.heap.size from fun k hk => ⟨hSb k hk, (hWb k hk).1⟩)
  have H89 := Lib.hid (And.intro hB9 hz9)
  have HPb := Lib.hid k9
  have b0 := cell_blk k9 (j := 0) rfl
  have b1 := cell_blk k9 (j := 1) rfl
  obtain ⟨a0', a1'⟩ := HPa.out w9 H79.out
  obtain ⟨p0, p1, p2, p3⟩ := HP.out w9 HX9.out
  have HOa := Lib.hid (fun (W : World) (hB : Below w7.heap.size w7 W) => show x.Ok W W.heap.size pa qa from Prg.Ok.le (HWa.out W (H67.out.1.trans (hB.mono H67.out.1.size))).1 (Le.cut _ _) (Nat.le_trans H67.out.1.size hB.size))
  have HC3 := Lib.hid (HRS.out w9 p q pa qa c d ca da (HXO.out w9 (HU.out _ HX9.out)) (HOa.out w9 H79.out))
  clear hOb hWb hSb hB8 hB9 HC2 a0 a1 k9 hz9 p2 p3
  go_wp2_with fail
  refine HC3.out.mono ?_
  rintro z w10 ⟨rfl, hB10⟩
  have HX10 := Lib.hid (HX9.out.trans (hB10.mono HX9.out.size))
  have H90 := Lib.hid hB10
  have H70 := Lib.hid (H79.out.trans (hB10.mono H79.out.size))
  clear hB10 HC3 a0' a1' b0 b1 p0 p1 hw7 hw9
  obtain ⟨a0, a1⟩ := HPa.out w10 H70.out
  have hk10 : w10.heap[w8.heap.size]? = some (.cells #[.slice pb nr cb, .slice qb nf db] 25) := (H90.out.block _ (lt_blk HPb.out)).trans HPb.out
  have b0 := cell_blk hk10 (j := 0) rfl
  have b1 := cell_blk hk10 (j := 1) rfl
  have HC4 := Lib.hid (HRS.out w10 pa qa pb qb ca da cb db (HOa.out w10 H70.out) (HOb.out w10 (fun k hk => by
    have h1 := (HSb.out k hk).2
    exact (H90.out.block k (Nat.lt_of_lt_of_le h1 H89.out.1.size)).trans (H89.out.1.block k h1)) (Nat.le_trans H89.out.1.size H90.out.size)))
  go_wp2_with fail
  refine HC4.out.mono ?_
  rintro z w11 ⟨rfl, hB11⟩
  have HX11 := Lib.hid (HX10.out.trans (hB11.mono HX10.out.size))
  have H91 := Lib.hid (H90.out.trans (hB11.mono H90.out.size))
  have H71 := Lib.hid (H70.out.trans (hB11.mono H70.out.size))
  clear hB11 HC4 a0 a1 b0 b1 hk10
  obtain ⟨a0, a1⟩ := HPa.out w11 H71.out
  have hOa := HWa.out w11 (H67.out.1.trans (H71.out.mono H67.out.1.size))
  have HC5 := Lib.hid (HSp.out w11 pa qa ca da w6.heap.size Sa hOa.1 (Nat.le_trans H67.out.1.size H71.out.size) hOa.2)
  clear hOa
  go_wp2_with fail
  refine HC5.out.mono ?_
  rintro z w12 ⟨rfl, hS12⟩
  have hs11 : w8.heap.size ≤ w11.heap.size := Nat.le_trans H89.out.1.size H91.out.size
  have HX12 := Lib.hid (HX11.out.trans (hS12.below HX11.out.size fun k hk => by
    cases hs : Sa k with
    | false => rfl
    | true => have := (HSa.out k hs).1; omega))
  have hSf : ∀ k, w6.heap.size ≤ k → Sa k = false := fun k hk => by
    cases hs : Sa k with
    | false => rfl
    | true => have := (HSa.out k hs).2; omega
  have h68 : w6.heap.size ≤ w8.heap.size := by have h1 := H67.out.1.size; have h2 := (H79.out).size; have h3 := H67.out.2; have h4 := H89.out.2; omega
  have hk12 : w12.heap[w8.heap.size]? = some (.cells #[.slice pb nr cb, .slice qb nf db] 25) := (hS12.block _ (by have := H91.out.size; have := H89.out.2; omega) (hSf _ h68)).trans ((H91.out.block _ (lt_blk HPb.out)).trans HPb.out)
  have b0 := cell_blk hk12 (j := 0) rfl
  have b1 := cell_blk hk12 (j := 1) rfl
  obtain ⟨p0, p1, p2, p3⟩ := HP.out w12 HX12.out
  have HC6 := Lib.hid (HRS.out w12 p q pb qb c d cb db (HXO.out w12 (HU.out _ HX12.out)) (HOb.out w12 (fun k hk => by
    have h1 := HSb.out k hk
    have h2 := H67.out.2
    exact (hS12.block k (by omega) (hSf k (by omega))).trans ((H91.out.block k (Nat.lt_of_lt_of_le h1.2 H89.out.1.size)).trans (H89.out.1.block k h1.2))) (Nat.le_trans hs11 hS12.size)))
  clear hS12 HC5 a0 a1 hSf h68 hs11 hk12
  go_wp2_with fail
  refine HC6.out.mono ?_
  rintro z w13 ⟨rfl, hB13⟩
  have HX13 := Lib.hid (HX12.out.trans (hB13.mono HX12.out.size))
  clear hB13 HC6 b0 b1 p0 p1 p2 p3
  have HC7 := Lib.hid (HKN.out _ (HU.out _ HX13.out))
  go_wp2_with fail
  refine HC7.out.mono ?_
  rintro z w14 ⟨rfl, hB14⟩
  have HB14 := Lib.hid hB14
  clear hB14 HC7
  go_wp2_with fail
  go_ret
  exact ⟨rfl, HB14.out⟩
end Go.Proofs.Ytnghehcjklkoeaa
