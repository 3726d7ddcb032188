/- A copy in new memory: functions, a program. -/
import Derived.Test.YtnghehcjklkoeaaPK
namespace Go.Proofs.Ytnghehcjklkoeaa
open Go.RowKit

theorem fn_cells (x : Fnc) (s : FncP) : ∀ u ∈ x.cells s, u.oneCell' = true := by
  intro u hu
  simp only [Fnc.cells, List.mem_toArray, List.mem_cons, List.not_mem_nil, or_false] at hu
  rcases hu with rfl | rfl | rfl | rfl | rfl <;> rfl
set_option maxRecDepth 100000 in
set_option maxHeartbeats 6400000 in
theorem clone1_of (x : Fnc) (hbg : x.body.big + x.params.length + x.vars.length + x.rets.length + 1 ≤ 1048576) (s : FncP) (N b o : Nat) (w : World) (hok : x.Ok w N s) (hN : N ≤ b) (hbw : b < w.heap.size) (hc : fnK.Here w x s b o) (hf : ∀ o', w.frozen? ⟨b, o', none⟩ = false) :
    Calls Try.prog 24 #[.pointer (some ⟨b, o, none⟩)] w fun z w' => z = .returned (.tuple #[]) ∧ Bt b w w' ∧ (∀ j, (j < o ∨ o + 5 ≤ j) → w'.cell? ⟨b, j, none⟩ = w.cell? ⟨b, j, none⟩) ∧
      ∃ S, fnK.Done w' S w'.heap.size x b o ∧ Wr S w'.heap.size w' ∧ ∀ k, S k = true → w.heap.size ≤ k := by
  have hNw : N ≤ w.heap.size := by omega
  have HB := Lib.hid hbw
  have HFz := Lib.hid hf
  have hlt : ∀ {W : World}, Bt b w W → N ≤ W.heap.size := fun h => Nat.le_trans hNw h.size
  have HV1 := Lib.hid (fun (W : World) (hB : Bt b w W) => freshVr_new x.params s.pp s.cp N W (hok.1.imp (Nat.le_refl N) (Vr.At.later (hB.below hN hNw))) (by omega))
  have HV2 := Lib.hid (fun (W : World) (hB : Bt b w W) => freshVr_new x.vars s.pv s.cv N W (hok.2.1.imp (Nat.le_refl N) (Vr.At.later (hB.below hN hNw))) (by omega))
  have HN := Lib.hid (fun (W : World) (hB : Bt b w W) => freshTx_new x.rets s.pr s.cr N W (hok.2.2.1.2.imp (Nat.le_refl N) (StrAt.later (hB.below hN hNw))) (by omega))
  have HBd := Lib.hid (fun (W : World) (hB : Bt b w W) => cps_to _ x.body (Nat.lt_succ_self _) (by omega) s.pb s.cb N W (hok.2.2.2.later (hB.below hN hNw) (Nat.le_refl N)) (hlt hB))
  have hR := (Rn.start (K := fnK) hc).call hbw (Below.refl w.heap.size w).drew
  clear hbg hok hN hbw hc hf hNw hlt
  have HC := Lib.hid (HV1.out _ hR.bt)
  go_enter Try.func24, Try.ntmps24
  go_upto_region 0 with fail
  refine bgk 20 (fun W => W.cell? ⟨b, o + 1, none⟩ = some (.slice s.pp x.params.length s.cp) ∧ W.cell? ⟨b, o + 2, none⟩ = some (.slice s.pv x.vars.length s.cv) ∧ W.cell? ⟨b, o + 3, none⟩ = some (.slice s.pr x.rets.length s.cr)) (⟨hR.here 1 _ rfl, hR.here 2 _ rfl, hR.here 3 _ rfl⟩) (fun hHeld => ?_)
  refine tk0 0 ?_ rfl (.inl ⟨by rfl, ?_⟩) ?_
  rotate_left
  · (intro w hSw; (try dsimp only at hSw); go_simp; try with_reducible rfl)
  try simp only [Act.put, List.setIfInBounds_toArray, List.set_cons_zero, List.set_cons_succ]
  refine tk0 1 ?_ rfl (.inl ⟨by rfl, ?_⟩) ?_
  rotate_left
  · (intro w hSw; (try dsimp only at hSw); go_simp; try with_reducible rfl)
  try simp only [Act.put, List.setIfInBounds_toArray, List.set_cons_zero, List.set_cons_succ]
  refine tk0 2 ?_ rfl (.inl ⟨by rfl, ?_⟩) ?_
  rotate_left
  · (intro w hSw; (try dsimp only at hSw); go_simp; try with_reducible rfl)
  try simp only [Act.put, List.setIfInBounds_toArray, List.set_cons_zero, List.set_cons_succ]
  refine tk0 3 ?_ rfl (.inl ⟨by rfl, ?_⟩) ?_
  rotate_left
  · (intro w hSw; (try dsimp only at hSw); go_simp; try with_reducible rfl)
  try simp only [Act.put, List.setIfInBounds_toArray, List.set_cons_zero, List.set_cons_succ]
  refine tk0 4 ?_ rfl (.inl ⟨by rfl, ?_⟩) ?_
  rotate_left
  · (intro w hSw; (try dsimp only at hSw); go_simp; try with_reducible rfl)
  try simp only [Act.put, List.setIfInBounds_toArray, List.set_cons_zero, List.set_cons_succ]
  refine tk0 5 ?_ rfl (.inl ⟨by rfl, ?_⟩) ?_
  rotate_left
  · (intro w hSw; (try dsimp only at hSw); go_simp; try with_reducible rfl)
  try simp only [Act.put, List.setIfInBounds_toArray, List.set_cons_zero, List.set_cons_succ]
  refine tkl 6 ?_ rfl (.inl ⟨by rfl, ?_⟩) ?_
  rotate_left
  · (intro w hSw; (try dsimp only at hSw); go_simp; try with_reducible rfl)
  try simp only [Act.put, List.setIfInBounds_toArray, List.set_cons_zero, List.set_cons_succ]
  refine tk0 8 ?_ rfl (.inl ⟨by rfl, ?_⟩) ?_
  rotate_left
  · (intro w hSw; (try dsimp only at hSw); go_simp; try with_reducible rfl)
  try simp only [Act.put, List.setIfInBounds_toArray, List.set_cons_zero, List.set_cons_succ]
  refine tk0 9 ?_ rfl (.inl ⟨by rfl, ?_⟩) ?_
  rotate_left
  · (intro w hSw; (try dsimp only at hSw); go_simp; try with_reducible rfl)
  try simp only [Act.put, List.setIfInBounds_toArray, List.set_cons_zero, List.set_cons_succ]
  refine tk0 10 ?_ rfl (.inl ⟨by rfl, ?_⟩) ?_
  rotate_left
  · (intro w hSw; (try dsimp only at hSw); go_simp; try with_reducible rfl)
  try simp only [Act.put, List.setIfInBounds_toArray, List.set_cons_zero, List.set_cons_succ]
  refine tkl 11 ?_ rfl (.inl ⟨by rfl, ?_⟩) ?_
  rotate_left
  · (intro w hSw; (try dsimp only at hSw); go_simp; try with_reducible rfl)
  try simp only [Act.put, List.setIfInBounds_toArray, List.set_cons_zero, List.set_cons_succ]
  refine tk0 13 ?_ rfl (.inl ⟨by rfl, ?_⟩) ?_
  rotate_left
  · (intro w hSw; (try dsimp only at hSw); go_simp; try with_reducible rfl)
  try simp only [Act.put, List.setIfInBounds_toArray, List.set_cons_zero, List.set_cons_succ]
  refine tk0 14 ?_ rfl (.inl ⟨by rfl, ?_⟩) ?_
  rotate_left
  · (intro w hSw; (try dsimp only at hSw); go_simp; try with_reducible rfl)
  try simp only [Act.put, List.setIfInBounds_toArray, List.set_cons_zero, List.set_cons_succ]
  refine tk0 15 ?_ rfl (.inl ⟨by rfl, ?_⟩) ?_
  rotate_left
  · (intro w hSw; (try dsimp only at hSw); go_simp; try with_reducible rfl)
  try simp only [Act.put, List.setIfInBounds_toArray, List.set_cons_zero, List.set_cons_succ]
  refine tkl 16 ?_ rfl (.inl ⟨by rfl, ?_⟩) ?_
  rotate_left
  · (intro w hSw; (try dsimp only at hSw); go_simp; try with_reducible rfl)
  try simp only [Act.put, List.setIfInBounds_toArray, List.set_cons_zero, List.set_cons_succ]
  refine rdk 7 rfl (fun K hK => ?_)
  go_simp
  refine HC.out.mono ?_
  rintro z w1 ⟨q1, d1, rfl, hB3, hN3⟩
  have hs3 : w.heap.size ≤ w.drew.heap.size := Nat.le_refl _
  replace hR := hR.call HB.out hB3
  have HN1 := Lib.hid (hN3.from hs3)
  have HM1 := Lib.hid (mono_vrs x.params q1)
  have HC2 := Lib.hid (HV2.out _ hR.bt)
  clear hB3 hN3 HC HV1 HV2 hs3
  refine hK.out _ _ ?_ (fun hHeld => ?_)
  · exact ⟨hR.here 1 _ rfl, hR.here 2 _ rfl, hR.here 3 _ rfl⟩
  clear hK K
  try simp only [Act.put, List.setIfInBounds_toArray, List.set_cons_zero, List.set_cons_succ]
  refine rdk 12 rfl (fun K hK => ?_)
  go_simp
  refine HC2.out.mono ?_
  rintro z w2 ⟨q2, d2, rfl, hB3, hN3⟩
  have hs3 : w.heap.size ≤ w1.heap.size := hR.bt.size
  replace hR := hR.call HB.out hB3
  have HN2 := Lib.hid ((HN1.out.later HM1.out (Bt.of (g := b) hB3) HB.out).both (hN3.from hs3) HM1.out (mono_vrs _ _))
  have HM2 := Lib.hid (HM1.out.and (mono_vrs x.vars q2))
  have HC3 := Lib.hid (HN.out _ hR.bt)
  clear hB3 hN3 HC2 HN1 HM1 HN hs3
  refine hK.out _ _ ?_ (fun hHeld => ?_)
  · exact ⟨hR.here 1 _ rfl, hR.here 2 _ rfl, hR.here 3 _ rfl⟩
  clear hK K
  try simp only [Act.put, List.setIfInBounds_toArray, List.set_cons_zero, List.set_cons_succ]
  refine rdk 17 rfl (fun K hK => ?_)
  go_simp
  refine HC3.out.mono ?_
  rintro z w3 ⟨q3, d3, rfl, hd3, hB3, hN3⟩
  have hs3 : w.heap.size ≤ w2.heap.size := hR.bt.size
  have HD3 := Lib.hid hd3
  replace hR := hR.call HB.out hB3
  have HN3 := Lib.hid ((HN2.out.later HM2.out (Bt.of (g := b) hB3) HB.out).both (hN3.from hs3) HM2.out (mono_strs _ _))
  have HM3 := Lib.hid (HM2.out.and (mono_strs x.rets q3))
  clear hB3 hN3 HC3 HN2 HM2 hs3 hd3
  refine hK.out _ _ ?_ (fun hHeld => ?_)
  · exact ⟨hR.here 1 _ rfl, hR.here 2 _ rfl, hR.here 3 _ rfl⟩
  clear hK K
  try simp only [Act.put, List.setIfInBounds_toArray, List.set_cons_zero, List.set_cons_succ]
  refine tk0 18 ?_ rfl (.inl ⟨by rfl, ?_⟩) ?_
  rotate_left
  · (intro w hSw; (try dsimp only at hSw); go_simp; try with_reducible rfl)
  try simp only [Act.put, List.setIfInBounds_toArray, List.set_cons_zero, List.set_cons_succ]
  refine tk0 19 ?_ rfl (.inl ⟨by rfl, ?_⟩) ?_
  rotate_left
  · (intro w hSw; (try dsimp only at hSw); go_simp; try with_reducible rfl)
  try simp only [Act.put, List.setIfInBounds_toArray, List.set_cons_zero, List.set_cons_succ]
  refine rdb 20 rfl (fun K hK => ?_)
  have f2 := hR.fz HB.out HFz.out (o + 1)
  have c2 := hR.here 1 _ rfl
  go_simp
  refine hK.out _ _ ?_
  have hR2 := hR.put 1 (.slice q1 x.params.length d1) { s with pp := q1, cp := d1 } (by decide) rfl
  have HN4 := Lib.hid (HN3.out.later HM3.out (Bt.put b (o + 1) w3 (.slice q1 x.params.length d1)) HB.out)
  generalize w3.setCell ⟨b, o + 1, none⟩ (.slice q1 x.params.length d1) = w4 at hR2 HN4 ⊢
  clear HN3 f2 c2 hR
  clear hK K
  try simp only [Act.put, List.setIfInBounds_toArray, List.set_cons_zero, List.set_cons_succ]
  refine tkb 21 ?_ rfl (.inl ⟨by rfl, ?_⟩) ?_
  rotate_left
  · (intro w hSw; (try dsimp only at hSw); go_simp; try with_reducible rfl)
  try simp only [Act.put, List.setIfInBounds_toArray, List.set_cons_zero, List.set_cons_succ]
  refine tkb 22 ?_ rfl (.inl ⟨by rfl, ?_⟩) ?_
  rotate_left
  · (intro w hSw; (try dsimp only at hSw); go_simp; try with_reducible rfl)
  try simp only [Act.put, List.setIfInBounds_toArray, List.set_cons_zero, List.set_cons_succ]
  refine rdb 23 rfl (fun K hK => ?_)
  have f2 := hR2.fz HB.out HFz.out (o + 2)
  have c2 := hR2.here 2 _ rfl
  go_simp
  refine hK.out _ _ ?_
  have hR3 := hR2.put 2 (.slice q2 x.vars.length d2) { s with pp := q1, cp := d1, pv := q2, cv := d2 } (by decide) rfl
  have HN5 := Lib.hid (HN4.out.later HM3.out (Bt.put b (o + 2) w4 (.slice q2 x.vars.length d2)) HB.out)
  generalize w4.setCell ⟨b, o + 2, none⟩ (.slice q2 x.vars.length d2) = w5 at hR3 HN5 ⊢
  clear HN4 f2 c2 hR2
  clear hK K
  try simp only [Act.put, List.setIfInBounds_toArray, List.set_cons_zero, List.set_cons_succ]
  refine tkb 24 ?_ rfl (.inl ⟨by rfl, ?_⟩) ?_
  rotate_left
  · (intro w hSw; (try dsimp only at hSw); go_simp; try with_reducible rfl)
  try simp only [Act.put, List.setIfInBounds_toArray, List.set_cons_zero, List.set_cons_succ]
  refine tkb 25 ?_ rfl (.inl ⟨by rfl, ?_⟩) ?_
  rotate_left
  · (intro w hSw; (try dsimp only at hSw); go_simp; try with_reducible rfl)
  try simp only [Act.put, List.setIfInBounds_toArray, List.set_cons_zero, List.set_cons_succ]
  refine rdb 26 rfl (fun K hK => ?_)
  have f2 := hR3.fz HB.out HFz.out (o + 3)
  have c2 := hR3.here 3 _ rfl
  go_simp
  refine hK.out _ _ ?_
  have hR4 := hR3.put 3 (.slice q3 x.rets.length d3) { s with pp := q1, cp := d1, pv := q2, cv := d2, pr := q3, cr := d3 } (by decide) rfl
  have HN6 := Lib.hid (HN5.out.later HM3.out (Bt.put b (o + 3) w5 (.slice q3 x.rets.length d3)) HB.out)
  generalize w5.setCell ⟨b, o + 3, none⟩ (.slice q3 x.rets.length d3) = w6 at hR4 HN6 ⊢
  clear HN5 f2 c2 hR3
  clear hK K
  try simp only [Act.put, List.setIfInBounds_toArray, List.set_cons_zero, List.set_cons_succ]
  refine dnk ?_ (by kernel_rfl) _
  have HR4 := Lib.hid hR4
  have HC := Lib.hid (HBd.out _ hR4.bt)
  have c4 := hR4.here 4 _ rfl
  clear hR4 HBd
  go_wp2_with fail
  refine HC.out.mono ?_
  rintro z w7 ⟨q4, d4, rfl, hB3, hN3⟩
  have hR5 := HR4.out.call HB.out hB3
  have HN7 := Lib.hid ((HN6.out.later HM3.out (Bt.of (g := b) hB3) HB.out).both (hN3.from HR4.out.bt.size) HM3.out (mono_sts _ _))
  have HM7 := Lib.hid (HM3.out.and (mono_sts x.body q4))
  have f2 := hR5.fz HB.out HFz.out (o + 4)
  have c2 := hR5.here 4 _ rfl
  have HR6 := Lib.hid (hR5.put 4 (.slice q4 x.body.len d4) { s with pp := q1, cp := d1, pv := q2, cv := d2, pr := q3, cr := d3, pb := q4, cb := d4 } (by decide) rfl)
  have HN8 := Lib.hid (HN7.out.later HM7.out (Bt.put b (o + 4) w7 (.slice q4 x.body.len d4)) HB.out)
  clear hB3 hN3 hR5 HC HR4 HN6 HM3 HN7 c4
  go_wp2_with fail
  go_end0
  obtain ⟨S, ⟨⟨⟨n1, n2⟩, n3⟩, n4⟩, h2, h3⟩ := HN8.out
  exact ⟨rfl, HR6.out.bt, HR6.out.out, S, ⟨_, HR6.out.here, ⟨n1, n2, ⟨HD3.out, n3⟩, n4⟩⟩, h2, h3⟩
set_option maxRecDepth 100000 in
set_option maxHeartbeats 3200000 in
theorem cpf_any (l : List Fnc) (hbig : fnsBig l ≤ 1048576) (p : Option Addr) (c N : Nat) (w : World) (h : RowIn N (Fnc.At w N) 5 l p) (hN : N ≤ w.heap.size) :
    Calls Try.prog 23 #[.slice p l.length c, .func (Fn.func 24) #[] #[]] w fun z w' => ∃ q d, z = .returned (.slice q l.length d) ∧ l.length ≤ d ∧ Below w.heap.size w w' ∧ New w w' fun v N => RowIn N (Fnc.At v N) 5 l q := by
  have HNN := Lib.hid (And.intro hN hbig)
  obtain ⟨hm, hs⟩ := h
  obtain ⟨b, o, hp, ha⟩ : ∃ b o, (l.length = 0 ∨ p = some ⟨b, o, none⟩) ∧ Row (Fnc.At w N) 5 l b o := by
    rcases hs with h0 | ⟨b, o, hp, hb, ha⟩
    · exact ⟨0, 0, .inl h0, by cases l with | nil => trivial | cons => simp at h0⟩
    · exact ⟨b, o, .inr hp, ha⟩
  obtain ⟨news, n1, n2, n3, n4⟩ := fnK.news (At := Fnc.At w N) (fun x b o h => h.open) fn_cells l b o ha
  have HFr := Lib.hid (freshFn_any p l.length c news w ⟨n1, by rcases hp with h0 | h0; (· exact .inl h0); (· exact .inr ⟨b, o, h0, n3⟩)⟩ n2 (Nat.le_trans (fnsBig_len l) hbig))
  have HN4 := Lib.hid n4
  have HSz := Lib.hid (fun (x : Fnc) (hx : x ∈ l) => show x.body.big + x.params.length + x.vars.length + x.rets.length + 1 ≤ 1048576 from Nat.le_trans (fnsBig_mem l x hx) hbig)
  clear hN hbig hs hp ha n1 n2 n3 n4
  go_enter Try.func23, Try.ntmps23
  go_wp2_with fail
  refine HFr.out.mono ?_
  rintro z w1 ⟨v, rfl, hown, hB⟩
  rcases hown.2 with ⟨rfl, h0⟩ | ⟨g, cap, cur, rfl, hg, hk, hnc, hcp, hcs, ht⟩
  · have HE := Lib.hid (And.intro hB h0)
    clear hown hB HFr
    have h0i : ¬ (0 : Int) < 0 := by omega
    go_wp2_with fail
    go_loopw [6, 11] (fun s6 i wr => i = .int .i64 0 ∧ wr = w1) (fun _ _ _ => 0)
    case atStart => exact ⟨rfl, rfl⟩
    case round =>
      obtain ⟨rfl, rfl⟩ := hrel
      go_wp2_with fail
      go_ret
      exact ⟨none, 0, by rw [HE.out.2]; rfl, by rw [HE.out.2]; exact Nat.le_refl 0, HE.out.1, fun _ => false, ⟨by rw [HE.out.2]; exact Nat.zero_le _, .inl HE.out.2⟩, (fun _ h => (by cases h)), (fun _ h => (by cases h))⟩
  · have HG := Lib.hid (show g < w1.heap.size ∧ (∀ o, w1.frozen? ⟨g, o, none⟩ = false) from ⟨lt_blk hk, fun o => by simp [World.frozen?, hk]⟩)
    have HP0 := Lib.hid (HN4.out w1 g 0 fun j u hu => by
      rw [Nat.zero_add]
      rw [← ht, List.getElem?_take] at hu
      split at hu
      · exact cell_blk hk (by rw [← Array.getElem?_toList]; exact hu)
      · cases hu)
    have HB := Lib.hid hB
    have HGw := Lib.hid (And.intro hg hnc)
    clear hown hB hk hcs ht HFr hg HN4 hnc
    go_wp2_with fail
    go_loopw [6, 11] (fun s6 i wr => ∃ (ds rs : List Fnc) (S : Nat → Bool), i = .int .i64 ds.length ∧ ds.length + rs.length = l.length ∧ Hid (l = ds ++ rs) ∧ Hid (Row (fnK.Done wr S wr.heap.size) 5 ds g 0) ∧ Hid (Row (fnK.Pend wr w N) 5 rs g (ds.length * 5)) ∧ Hid (Below w.heap.size w wr ∧ g < wr.heap.size ∧ (∀ o, wr.frozen? ⟨g, o, none⟩ = false) ∧ Wr S wr.heap.size wr ∧ ∀ k, S k = true → g < k)) (fun _ i _ => l.length - (intOf i).toNat)
    case atStart => exact ⟨[], l, fun _ => false, rfl, by simp, Lib.hid rfl, Lib.hid trivial, Lib.hid HP0.out, Lib.hid ⟨HB.out, HG.out.1, HG.out.2, (fun _ h => (by cases h)), (fun _ h => (by cases h))⟩⟩
    case round =>
      obtain ⟨ds, rs, S, rfl, hk, hE, hD, hPd, hX⟩ := hrel
      obtain ⟨wp, rfl⟩ : ∃ wp : World, wp = wr := ⟨_, rfl⟩
      cases rs with
      | nil =>
        simp only [List.length_nil] at hk
        have hge : ¬ ds.length < l.length := by omega
        have HEnd := Lib.hid (show ∃ q d, Value.slice (some ⟨g, 0, none⟩) l.length cap = .slice q l.length d ∧ l.length ≤ d ∧ Below w.heap.size w wp ∧ New w wp fun v N => RowIn N (Fnc.At v N) 5 l q from
          ⟨_, _, rfl, HGw.out.2, hX.out.1, fun k => S k || k == g, ⟨hm, .inr ⟨g, 0, rfl, hX.out.2.1, done_fns (S := S) (by simp) (fun k hk => by simp [hk]) l 0 (by rw [hE.out, List.append_nil]; exact hD.out)⟩⟩, fun b hb => by
            simp only [Bool.or_eq_true, beq_iff_eq] at hb
            rcases hb with hb | rfl
            · exact hX.out.2.2.2.1 b hb
            · exact ⟨hX.out.2.1, hX.out.2.2.1⟩, fun k hk => by
            simp only [Bool.or_eq_true, beq_iff_eq] at hk
            have := HGw.out.1
            rcases hk with hk | rfl
            · have := hX.out.2.2.2.2 k hk; omega
            · omega⟩)
        clear hD hPd hE
        go_wp2_with fail
        go_ret
        obtain ⟨q, d, h1, h2⟩ := HEnd.out
        exact ⟨q, d, by rw [← h1]; rfl, h2⟩
      | cons y rs =>
        simp only [List.length_cons] at hk
        have hlt : ds.length < l.length := by omega
        obtain ⟨⟨s, hs, hok⟩, _⟩ := hPd.out
        have hys := HSz.out y (by rw [hE.out]; simp)
        have hg1 := HGw.out.1
        have hNw := HNN.out.1
        have HC := Lib.hid (clone1_of y hys s N g (ds.length * 5) wp (Fnc.Ok.later hok (hX.out.1.mono hNw) (Nat.le_refl N)) (by omega) hX.out.2.1 hs hX.out.2.2.1)
        have HBl := Lib.hid (fun (W : World) (hB : Bt g wp W) => show Below w.heap.size w W from hX.out.1.trans (hB.below (by omega) hX.out.1.size))
        clear hok hys hs hg1 hNw
        go_wp2_with fail
        refine HC.out.mono ?_
        rintro z w2 ⟨rfl, hBt, hout, S1, hD1, hW1, hS1⟩
        have HI := Lib.hid (Knd.step (K := fnK) hD.out hPd.out hX.out.2.1 hX.out.2.2.1 hX.out.2.2.2.1 hX.out.2.2.2.2 hBt hout hD1 hW1 hS1)
        have HBB := Lib.hid (HBl.out w2 hBt)
        clear hBt hout hD1 hW1 hS1 HC
        go_wp2_with fail
        go_roundw
        case rel => exact ⟨ds ++ [y], rs, fun k => S k || S1 k, by rw [List.length_append]; go_num, by simp; omega, Lib.hid (by rw [hE.out]; simp), Lib.hid HI.out.1, Lib.hid HI.out.2.1, Lib.hid ⟨HBB.out, HI.out.2.2⟩⟩
        case measure => simp [intOf]; omega

theorem mono_prg (x : Prg) (p q : Option Addr) : MonoP fun v N => x.Ok v N p q := fun _ _ _ _ h hl hm => ⟨h.1.imp hm fun x b o _ => Rgn.At.le hl x b o, h.2.imp hm fun x b o _ => Fnc.At.le hl hm x b o⟩
set_option maxRecDepth 100000 in
set_option maxHeartbeats 6400000 in
theorem clone_any (x : Prg) (p q : Option Addr) (c d N : Nat) (w : World) (h : x.Ok w N p q) (hN : N ≤ w.heap.size) (hr : x.regs.length ≤ 1048576) (hbig : fnsBig x.fns ≤ 1048576) :
    Calls Try.prog 10 #[x.val p q c d] w fun z w' => ∃ p' q' c' d', z = .returned (x.val p' q' c' d') ∧ Below w.heap.size w w' ∧ New w w' fun v N => x.Ok v N p' q' := by
  obtain ⟨W0, hW0, k0, k1, hB0, hz0⟩ := two_alloc w (.cells #[.slice p x.regs.length c, .slice q x.fns.length d] 25) (.cells #[.slice none 0 0, .slice none 0 0] 25)
  have HRg := Lib.hid (fun (W : World) (hB : Below w.heap.size w W) => freshRg_new x.regs p c N W (h.1.imp (Nat.le_refl N) (Rgn.At.later (hB.mono hN))) hr)
  have HFn := Lib.hid (fun (W : World) (hB : Below w.heap.size w W) => cpf_any x.fns hbig q d N W (h.2.imp (Nat.le_refl N) (Fnc.At.later (hB.mono hN) (Nat.le_refl N))) (Nat.le_trans hN hB.size))
  have HU := Lib.hid (fun (W : World) (hB : Below W0.heap.size W0 W) => show Below w.heap.size w W from hB0.trans (hB.mono (by omega)))
  have HZ := Lib.hid (show w.heap.size + 2 = W0.heap.size from hz0.symm)
  have HP := Lib.hid (fun (W : World) (hB : Below W0.heap.size W0 W) => show (W.cell? ⟨w.heap.size, 0, none⟩ = some (.slice p x.regs.length c) ∧ W.cell? ⟨w.heap.size, 1, none⟩ = some (.slice q x.fns.length d)) ∧ W.heap[w.heap.size + 1]? = some (.cells #[.slice none 0 0, .slice none 0 0] 25) from
    ⟨⟨cell_blk ((hB.block _ (lt_blk k0)).trans k0) rfl, cell_blk ((hB.block _ (lt_blk k0)).trans k0) rfl⟩, (hB.block _ (lt_blk k1)).trans k1⟩)
  have HW0 := Lib.hid hW0
  have hX : Below W0.heap.size W0 W0.drew := (Below.refl _ _).drew
  have HC := Lib.hid (HRg.out _ (HU.out _ hX))
  unfold Prg.val
  clear h hN hr hbig hB0 hz0 k0 k1 hW0 HRg
  go_enter Try.func10, Try.ntmps10
  go_upto_region 1 with fail
  rw [HW0.out]
  refine bgk 7 (fun W => W.cell? ⟨w.heap.size, 0, none⟩ = some (.slice p x.regs.length c) ∧ W.cell? ⟨w.heap.size, 1, none⟩ = some (.slice q x.fns.length d)) ((HP.out _ hX).1) (fun hHeld => ?_)
  refine tk0 0 ?_ rfl (.inl ⟨by rfl, ?_⟩) ?_
  rotate_left
  · (intro w hSw; (try dsimp only at hSw); go_simp; try with_reducible rfl)
  try simp only [Act.put, List.setIfInBounds_toArray, List.set_cons_zero, List.set_cons_succ]
  refine tkl 1 ?_ rfl (.inl ⟨by rfl, ?_⟩) ?_
  rotate_left
  · (intro w hSw; (try dsimp only at hSw); go_simp; try with_reducible rfl)
  try simp only [Act.put, List.setIfInBounds_toArray, List.set_cons_zero, List.set_cons_succ]
  refine tk0 3 ?_ rfl (.inl ⟨by rfl, ?_⟩) ?_
  rotate_left
  · (intro w hSw; (try dsimp only at hSw); go_simp; try with_reducible rfl)
  try simp only [Act.put, List.setIfInBounds_toArray, List.set_cons_zero, List.set_cons_succ]
  refine tkl 4 ?_ rfl (.inl ⟨by rfl, ?_⟩) ?_
  rotate_left
  · (intro w hSw; (try dsimp only at hSw); go_simp; try with_reducible rfl)
  try simp only [Act.put, List.setIfInBounds_toArray, List.set_cons_zero, List.set_cons_succ]
  refine rdk 2 rfl (fun K hK => ?_)
  go_simp
  refine HC.out.mono ?_
  rintro z w1 ⟨q1, d1, rfl, hB1, hN1⟩
  replace hX := hX.trans (hB1.mono hX.size)
  have HN1 := Lib.hid (hN1.from (show W0.heap.size ≤ W0.drew.heap.size from Nat.le_refl _))
  have HM1 := Lib.hid (mono_rgs x.regs q1)
  have HC2 := Lib.hid (HFn.out _ (HU.out _ hX))
  clear hB1 hN1 HC HFn
  refine hK.out _ _ ?_ (fun hHeld => ?_)
  · exact (HP.out _ hX).1
  clear hK K
  try simp only [Act.put, List.setIfInBounds_toArray, List.set_cons_zero, List.set_cons_succ]
  refine rdk 5 rfl (fun K hK => ?_)
  go_simp
  refine HC2.out.mono ?_
  rintro z w2 ⟨q2, d2, rfl, _, hB2, hN2⟩
  have HN2 := Lib.hid (show New W0 w2 fun v N => x.Ok v N q1 q2 from (HN1.out.later2 HM1.out hB2).both (hN2.from hX.size) HM1.out (mono_fns _ _))
  replace hX := hX.trans (hB2.mono hX.size)
  clear hB2 hN2 HC2 HN1 HM1
  refine hK.out _ _ ?_ (fun hHeld => ?_)
  · exact (HP.out _ hX).1
  clear hK K
  try simp only [Act.put, List.setIfInBounds_toArray, List.set_cons_zero, List.set_cons_succ]
  refine tk0 6 ?_ rfl (.inl ⟨by rfl, ?_⟩) ?_
  rotate_left
  · (intro w hSw; (try dsimp only at hSw); go_simp; try with_reducible rfl)
  try simp only [Act.put, List.setIfInBounds_toArray, List.set_cons_zero, List.set_cons_succ]
  refine rdb 7 rfl (fun K hK => ?_)
  have kk := (HP.out _ hX).2
  have z0 := cell_blk kk (j := 0) rfl
  have z1 := cell_blk kk (j := 1) rfl
  have f0 : w2.frozen? ⟨w.heap.size + 1, 0, none⟩ = false := by simp [World.frozen?, kk]
  have f1 : w2.frozen? ⟨w.heap.size + 1, 1, none⟩ = false := by simp [World.frozen?, kk]
  go_simp
  refine hK.out _ _ ?_
  have HN3 := Lib.hid ((HN2.out.later (mono_prg x q1 q2) (Bt.put (w.heap.size + 1) 0 w2 (.slice q1 x.regs.length d1)) (by have := HZ.out; omega)).later (mono_prg x q1 q2) (Bt.put (w.heap.size + 1) 1 _ (.slice q2 x.fns.length d2)) (by have := HZ.out; omega))
  have HX3 := Lib.hid (((HU.out _ hX).setCell (p := ⟨w.heap.size + 1, 0, none⟩) (show w.heap.size ≤ w.heap.size + 1 by omega) (.slice q1 x.regs.length d1)).setCell (p := ⟨w.heap.size + 1, 1, none⟩) (show w.heap.size ≤ w.heap.size + 1 by omega) (.slice q2 x.fns.length d2))
  have y0 : ((w2.setCell ⟨w.heap.size + 1, 0, none⟩ (.slice q1 x.regs.length d1)).setCell ⟨w.heap.size + 1, 1, none⟩ (.slice q2 x.fns.length d2)).cell? ⟨w.heap.size + 1, 0, none⟩ = some (.slice q1 x.regs.length d1) := by rw [World.cell?_setCell_other _ _ _ _ (fun e => by cases e), World.cell?_setCell_same _ _ _ z0]
  have y1 : ((w2.setCell ⟨w.heap.size + 1, 0, none⟩ (.slice q1 x.regs.length d1)).setCell ⟨w.heap.size + 1, 1, none⟩ (.slice q2 x.fns.length d2)).cell? ⟨w.heap.size + 1, 1, none⟩ = some (.slice q2 x.fns.length d2) := by rw [World.cell?_setCell_same _ _ _ ((World.cell?_setCell_other _ _ _ _ (fun e => by cases e)).trans z1)]
  generalize (w2.setCell ⟨w.heap.size + 1, 0, none⟩ (.slice q1 x.regs.length d1)).setCell ⟨w.heap.size + 1, 1, none⟩ (.slice q2 x.fns.length d2) = W3 at HN3 HX3 y0 y1 ⊢
  clear HN2 z0 z1 f0 f1 kk hX HP
  clear hK K
  try simp only [Act.put, List.setIfInBounds_toArray, List.set_cons_zero, List.set_cons_succ]
  refine dnk ?_ (by kernel_rfl) _
  go_wp2_with fail
  refine bodyPost_ret (v := .agg #[.slice q1 x.regs.length d1, .slice q2 x.fns.length d2]) ?_ rfl ⟨q1, q2, d1, d2, rfl, HX3.out, HN3.out.from (by have := HZ.out; omega)⟩
  simp [results, Try.results10, go_sem, y0, y1]
end Go.Proofs.Ytnghehcjklkoeaa
