/- What is asked of a loop. -/
import Derived.Test.YtnghehcjklkoeaaF1
import Derived.Test.YtnghehcjklkoeaaJ4
namespace Go.Proofs.Ytnghehcjklkoeaa
open Go.RowKit

def loopA (t : Plc) (y : St) : Nat := ask (!t.ar.any (fun z => z == y.name)) 2
def loopB (y : St) : Nat := ask (decide ((y.low : Int) ≤ (y.high : Int)) && decide ((y.high : Int) ≤ 65536)) 2
def loopC (fn : Fnc) (y : St) : Nat := ask (!fn.rets.any (fun z => z == y.name)) 2
def loopD (fn : Fnc) (y : St) : Nat := ask (!fn.params.any (named y.name)) 2
def loopR (x : Prg) (fn : Fnc) (t : Plc) (y : St) : Nat := seq (wordR x fn y.name) (seq (loopA t y) (seq (loopB y) (seq (loopC fn y) (loopD fn y))))
set_option maxRecDepth 100000 in
set_option maxHeartbeats 6400000 in
theorem loop_any (x : Prg) (s : PrgP) (fn : Fnc) (f : List UInt8 → Nat) (t : Plc) (y : St) (b o N : Nat) (w : World) (h : PlOk w N x s fn f t) (hy : y.At w N b o) (hb : b < N) :
    Calls Try.prog 84 #[t.v, .pointer (some ⟨b, o, none⟩)] w (Chk (loopR x fn t y) w) := by
  obtain ⟨W0, hW0, k0, k1, hB0, hz0⟩ := two_alloc w t.obj (.cells #[.pointer (some ⟨b, o, none⟩)] 89)
  have h0 := h.later hB0
  have hbN : b < w.heap.size := Nat.lt_of_lt_of_le hb h.hN
  obtain ⟨sy, hcy, _⟩ := hy.open
  obtain ⟨b', o', hq, hb', ha'⟩ := Row.start h.ok.2
  have hil : t.fi < x.fns.length := (List.getElem?_eq_some_iff.1 h.fi).1
  obtain ⟨⟨pp, pv, pr, pbb, cp, cv, cr, cb⟩, e0, e1, e2, e3, e4, hok⟩ := Fnc.At.all (Row.get ha' h.fi)
  have hbw : b' < w.heap.size := by have := h.hN; omega
  have hqs : s.q = some ⟨b', o', none⟩ := by
    rcases hq with h0 | h0
    · omega
    · exact h0
  have HU := Lib.hid (fun (W : World) (hB : Below W0.heap.size W0 W) => show Below w.heap.size w W from hB0.trans (hB.mono (by omega)))
  have HS := Lib.hid (fun (W : World) (hB : Below W0.heap.size W0 W) => show W.cell? ⟨w.heap.size + 1, 0, none⟩ = some (.pointer (some ⟨b, o, none⟩)) ∧ W.cell? ⟨b, o + 1, none⟩ = some (.string (str y.name)) ∧ W.cell? ⟨b, o + 12, none⟩ = some (.int .u64 (y.low : Int)) ∧ W.cell? ⟨b, o + 13, none⟩ = some (.int .u64 (y.high : Int)) from
    ⟨cell_blk ((hB.block _ (lt_blk k1)).trans k1) rfl, ((HU.out W hB).cell (p := ⟨b, o + 1, none⟩) hbN).trans (hcy 1 _ rfl), ((HU.out W hB).cell (p := ⟨b, o + 12, none⟩) hbN).trans (hcy 12 _ rfl), ((HU.out W hB).cell (p := ⟨b, o + 13, none⟩) hbN).trans (hcy 13 _ rfl)⟩)
  have HP := Lib.hid (fun (W : World) (hB : Below W0.heap.size W0 W) => Plc.cells (t := t) ((hB.block _ (lt_blk k0)).trans k0))
  have HQ := Lib.hid (fun (W : World) (hB : Below W0.heap.size W0 W) => show W.cell? ⟨t.pb, 0, none⟩ = some (.slice s.p x.regs.length s.c) ∧ W.cell? ⟨t.pb, 1, none⟩ = some (.slice (some ⟨b', o', none⟩) x.fns.length s.d) ∧ W.cell? ⟨b', o' + t.fi * 5 + 1, none⟩ = some (.slice pp fn.params.length cp) ∧ W.cell? ⟨b', o' + t.fi * 5 + 3, none⟩ = some (.slice pr fn.rets.length cr) from
    ⟨cell_blk (h0.later hB).pb rfl, by rw [← hqs]; exact cell_blk (h0.later hB).pb rfl, ((HU.out W hB).cell (p := ⟨b', _, none⟩) hbw).trans e1, ((HU.out W hB).cell (p := ⟨b', _, none⟩) hbw).trans e3⟩)
  have HWd := Lib.hid (fun (W : World) (hB : Below W0.heap.size W0 W) => word_any x s fn f t y.name N W (h0.later hB))
  have HAr := Lib.hid (fun (W : World) (hB : Below W0.heap.size W0 W) => contains_any t.ar y.name t.ap t.ac _ W (h0.later hB).ar)
  have HRt := Lib.hid (fun (W : World) (hB : Below W0.heap.size W0 W) => contains_any fn.rets y.name pr cr N W (hok.2.2.1.2.imp (Nat.le_refl _) (StrAt.later ((HU.out W hB).mono h.hN))))
  have HPr := Lib.hid (fun (W : World) (hB : Below W0.heap.size W0 W) => anyLoop_any fn.params pp cp N y.name (w.heap.size + 1) b o W (hok.1.imp (Nat.le_refl _) (Vr.At.later ((HU.out W hB).mono h.hN))) (h0.later hB).hN ⟨(hB.block _ (lt_blk k1)).trans k1, (HS.out W hB).2.1, by have := hB.size; omega⟩)
  have HW0 := Lib.hid hW0
  have HNo := Lib.hid (fun (w' : World) (e : Nat) (he : loopR x fn t y = e) (h0 : e ≠ 0) (hB : Below W0.heap.size W0 w') => show Chk (loopR x fn t y) w (Pn (e : Int)) w' from Chk.no' he h0 (HU.out w' hB))
  have HOK := Lib.hid (fun (w' : World) (he : loopR x fn t y = 0) (hB : Below W0.heap.size W0 w') => show Chk (loopR x fn t y) w (.returned (.tuple #[])) w' from .ok he (HU.out w' hB))
  have hfl : (t.fi : Int) < (x.fns.length : Int) := by omega
  obtain ⟨c0, c1, c2, c3, c4⟩ := HP.out _ (Below.refl _ _)
  obtain ⟨s0, s1, s2, s3⟩ := HS.out _ (Below.refl _ _)
  have HPL := Lib.hid (show w.heap.size < W0.heap.size ∧ w.heap.size + 1 < W0.heap.size ∧ b < W0.heap.size from ⟨by omega, by omega, by omega⟩)
  unfold Plc.obj at HW0
  unfold Plc.v at HWd ⊢
  unfold Pn at HNo
  clear h0 hW0 k0 k1 hB0 hz0 h hy hb hcy hq hb' ha' e0 e1 e2 e3 e4 hok hqs hbN hbw
  go_enter Try.func84, Try.ntmps84
  go_upto_region 1 with fail
  rw [HW0.out]
  clear HW0
  go_still_tail 5, (by kernel_rfl)
  change wpList _ _ _ _ _ (World.drew _)
  go_wp2_with fail
  refine (HWd.out _ (Below.refl _ _).drew).mono ?_
  intro z w1 hc
  rcases hc with ⟨r1, hB1⟩ | ⟨r1, hB1⟩
  rotate_left
  · have HR := Lib.hid (HNo.out w1 _ (seq_no r1) r1 ((Below.refl _ _).drew.trans hB1))
    unfold Pn
    clear hB1 r1 c0 c1 c2 c3 c4 s0 s1 s2 s3
    go_wp2_with fail
    exact ⟨rfl, HR.out⟩
  have R1 := Lib.hid r1
  have HB1 := Lib.hid (show Below W0.heap.size W0 w1 from (Below.refl _ _).drew.trans hB1)
  clear hB1 r1 c0 c1 c2 c3 c4 s0 s1 s2 s3
  obtain ⟨c0, c1, c2, c3, c4⟩ := HP.out _ HB1.out
  obtain ⟨s0, s1, s2, s3⟩ := HS.out _ HB1.out
  go_wp2_with fail
  go_still_tail 6, (by kernel_rfl)
  change wpList _ _ _ _ _ (World.drew _)
  go_wp2_with fail
  refine (HAr.out _ HB1.out.drew).mono ?_
  rintro z w2 ⟨rfl, rfl⟩
  obtain ⟨q, hq⟩ : ∃ q, t.ar.any (fun z => z == y.name) = q := ⟨_, rfl⟩
  rw [hq]
  cases q with
  | true =>
    have HR := Lib.hid (HNo.out _ 2 (by unfold loopR loopA; rw [seq_ok R1.out, hq]; rfl) (by decide) HB1.out.drew)
    clear hq
    go_wp2_with (go_at_call 57; refine (must_no 2 _).mono ?_; rintro e w' ⟨rfl, hw⟩; subst hw; unfold Pn)
    exact ⟨rfl, HR.out⟩
  | false =>
    have R2 := Lib.hid (show loopA t y = 0 by unfold loopA; rw [hq]; rfl)
    clear hq c0 c1 c2 c3 c4 s0 s1 s2 s3
    have HB2 := Lib.hid HB1.out.drew
    go_wp2_with (go_at_call 57; refine (must_yes 2 _).mono ?_; rintro e w' ⟨rfl, hw⟩; subst hw)
    generalize w1.drew = w2 at HB2 ⊢
    obtain ⟨c0, c1, c2, c3, c4⟩ := HP.out _ HB2.out
    obtain ⟨s0, s1, s2, s3⟩ := HS.out _ HB2.out
    obtain ⟨p0, p1, p2, p3⟩ := HQ.out _ HB2.out
    have HT := Lib.hid (show (decide ((y.low : Int) ≤ (y.high : Int)) && decide ((y.high : Int) ≤ 65536)) = (decide ((y.low : Int) ≤ (y.high : Int)) && decide ((y.high : Int) ≤ 65536)) from rfl)
    obtain ⟨t1, ht1⟩ : ∃ t1, decide ((y.low : Int) ≤ (y.high : Int)) = t1 := ⟨_, rfl⟩
    obtain ⟨t2, ht2⟩ : ∃ t2, decide ((y.high : Int) ≤ 65536) = t2 := ⟨_, rfl⟩
    have hn1 : decide (y.low ≤ y.high) = t1 := by rw [← ht1, Bool.eq_iff_iff]; simp
    have hn2 : decide (y.high ≤ 65536) = t2 := by rw [← ht2, Bool.eq_iff_iff]; simp; omega
    have HLo := Lib.hid (show loopB y = Proofs.Ytnghehcjklkoeaa.ask (t1 && t2) 2 by unfold loopB; rw [ht1, ht2])
    have HS3 : Below w2.heap.size w2 w2.drew := (Below.refl _ _).drew
    have HL2 := Lib.hid (show w.heap.size + 1 < w2.heap.size ∧ b < w2.heap.size from ⟨Nat.lt_of_lt_of_le HPL.out.2.1 HB2.out.size, Nat.lt_of_lt_of_le HPL.out.2.2 HB2.out.size⟩)
    go_wp2_with fail
    cases t1
    · refine wp_region_held_drew (S := fun W => W.cell? ⟨w.heap.size + 1, 0, none⟩ = some (.pointer (some ⟨b, o, none⟩)) ∧ W.cell? ⟨b, o + 12, none⟩ = some (.int .u64 (y.low : Int)) ∧ W.cell? ⟨b, o + 13, none⟩ = some (.int .u64 (y.high : Int))) (by kernel_rfl) ?_ (fun hHeld => ?_)
      · exact ⟨s0, s2, s3⟩
      refine tk 0 ?_ rfl (.inl ⟨by rfl, ?_⟩) ?_
      rotate_left
      · (intro w hSw; (try dsimp only at hSw); go_simp; try with_reducible rfl)
      try simp only [Act.put, List.setIfInBounds_toArray, List.set_cons_zero, List.set_cons_succ]
      refine tk 1 ?_ rfl (.inl ⟨by rfl, ?_⟩) ?_
      rotate_left
      · (intro w hSw; (try dsimp only at hSw); go_simp; try with_reducible rfl)
      try simp only [Act.put, List.setIfInBounds_toArray, List.set_cons_zero, List.set_cons_succ]
      refine tk 2 ?_ rfl (.inl ⟨by rfl, ?_⟩) ?_
      rotate_left
      · (intro w hSw; (try dsimp only at hSw); go_simp; try with_reducible rfl)
      try simp only [Act.put, List.setIfInBounds_toArray, List.set_cons_zero, List.set_cons_succ]
      refine tk 3 ?_ rfl (.inl ⟨by rfl, ?_⟩) ?_
      rotate_left
      · (intro w hSw; (try dsimp only at hSw); go_simp; try with_reducible rfl)
      try simp only [Act.put, List.setIfInBounds_toArray, List.set_cons_zero, List.set_cons_succ]
      refine tk 4 ?_ rfl (.inl ⟨by rfl, ?_⟩) ?_
      rotate_left
      · (intro w hSw; (try dsimp only at hSw); go_simp; try with_reducible rfl)
      try simp only [Act.put, List.setIfInBounds_toArray, List.set_cons_zero, List.set_cons_succ]
      refine tk 5 ?_ rfl (.inl ⟨by rfl, ?_⟩) ?_
      rotate_left
      · (intro w hSw; (try dsimp only at hSw); go_simp; try with_reducible rfl)
      try simp only [Act.put, List.setIfInBounds_toArray, List.set_cons_zero, List.set_cons_succ]
      refine tk 6 ?_ rfl (.inl ⟨by rfl, ?_⟩) ?_
      rotate_left
      · (intro w hSw; (try dsimp only at hSw); go_simp; try with_reducible rfl)
      try simp only [Act.put, List.setIfInBounds_toArray, List.set_cons_zero, List.set_cons_succ]
      refine tk 7 ?_ rfl (.inl ⟨by rfl, ?_⟩) ?_
      rotate_left
      · (intro w hSw; (try dsimp only at hSw); go_simp; try with_reducible rfl)
      try simp only [Act.put, List.setIfInBounds_toArray, List.set_cons_zero, List.set_cons_succ]
      refine tk 8 ?_ rfl (.inl ⟨by rfl, ?_⟩) ?_
      rotate_left
      · (intro w hSw; (try dsimp only at hSw); go_simp; try with_reducible rfl)
      try simp only [Act.put, List.setIfInBounds_toArray, List.set_cons_zero, List.set_cons_succ]
      refine tk 9 ?_ rfl (.inl ⟨by rfl, ?_⟩) ?_
      rotate_left
      · (intro w hSw; (try dsimp only at hSw); go_simp; try with_reducible rfl)
      try simp only [Act.put, List.setIfInBounds_toArray, List.set_cons_zero, List.set_cons_succ]
      refine tk 10 undef rfl (.inr ⟨by rfl, rfl⟩) ?_
      try simp only [Act.put, List.setIfInBounds_toArray, List.set_cons_zero, List.set_cons_succ]
      refine tk 11 undef rfl (.inr ⟨by rfl, rfl⟩) ?_
      try simp only [Act.put, List.setIfInBounds_toArray, List.set_cons_zero, List.set_cons_succ]
      refine tk 12 undef rfl (.inr ⟨by rfl, rfl⟩) ?_
      try simp only [Act.put, List.setIfInBounds_toArray, List.set_cons_zero, List.set_cons_succ]
      refine tk 13 undef rfl (.inr ⟨by rfl, rfl⟩) ?_
      try simp only [Act.put, List.setIfInBounds_toArray, List.set_cons_zero, List.set_cons_succ]
      refine tk 14 undef rfl (.inr ⟨by rfl, rfl⟩) ?_
      try simp only [Act.put, List.setIfInBounds_toArray, List.set_cons_zero, List.set_cons_succ]
      refine tk 15 ?_ rfl (.inl ⟨by rfl, ?_⟩) ?_
      rotate_left
      · (intro w hSw; (try dsimp only at hSw); go_simp; try with_reducible rfl)
      try simp only [Act.put, List.setIfInBounds_toArray, List.set_cons_zero, List.set_cons_succ]
      have HR := Lib.hid (HNo.out _ 2 (by unfold loopR; rw [seq_ok R1.out, seq_ok R2.out, HLo.out]; rfl) (by decide) HB2.out.drew)
      refine wpAnyH_ready (rs := [16]) (by kernel_rfl) (by simp) ?_
      refine rdy rfl (fun K hK => ?_) AllReadyH.nil
      go_simp
      refine (must_no 2 _).mono ?_
      rintro e w' ⟨rfl, rfl⟩
      unfold Pn
      exact ⟨rfl, HR.out⟩
    cases t2
    · refine wp_region_held_drew (S := fun W => W.cell? ⟨w.heap.size + 1, 0, none⟩ = some (.pointer (some ⟨b, o, none⟩)) ∧ W.cell? ⟨b, o + 12, none⟩ = some (.int .u64 (y.low : Int)) ∧ W.cell? ⟨b, o + 13, none⟩ = some (.int .u64 (y.high : Int))) (by kernel_rfl) ?_ (fun hHeld => ?_)
      · exact ⟨s0, s2, s3⟩
      refine tk 0 ?_ rfl (.inl ⟨by rfl, ?_⟩) ?_
      rotate_left
      · (intro w hSw; (try dsimp only at hSw); go_simp; try with_reducible rfl)
      try simp only [Act.put, List.setIfInBounds_toArray, List.set_cons_zero, List.set_cons_succ]
      refine tk 1 ?_ rfl (.inl ⟨by rfl, ?_⟩) ?_
      rotate_left
      · (intro w hSw; (try dsimp only at hSw); go_simp; try with_reducible rfl)
      try simp only [Act.put, List.setIfInBounds_toArray, List.set_cons_zero, List.set_cons_succ]
      refine tk 2 ?_ rfl (.inl ⟨by rfl, ?_⟩) ?_
      rotate_left
      · (intro w hSw; (try dsimp only at hSw); go_simp; try with_reducible rfl)
      try simp only [Act.put, List.setIfInBounds_toArray, List.set_cons_zero, List.set_cons_succ]
      refine tk 3 ?_ rfl (.inl ⟨by rfl, ?_⟩) ?_
      rotate_left
      · (intro w hSw; (try dsimp only at hSw); go_simp; try with_reducible rfl)
      try simp only [Act.put, List.setIfInBounds_toArray, List.set_cons_zero, List.set_cons_succ]
      refine tk 4 ?_ rfl (.inl ⟨by rfl, ?_⟩) ?_
      rotate_left
      · (intro w hSw; (try dsimp only at hSw); go_simp; try with_reducible rfl)
      try simp only [Act.put, List.setIfInBounds_toArray, List.set_cons_zero, List.set_cons_succ]
      refine tk 5 ?_ rfl (.inl ⟨by rfl, ?_⟩) ?_
      rotate_left
      · (intro w hSw; (try dsimp only at hSw); go_simp; try with_reducible rfl)
      try simp only [Act.put, List.setIfInBounds_toArray, List.set_cons_zero, List.set_cons_succ]
      refine tk 6 ?_ rfl (.inl ⟨by rfl, ?_⟩) ?_
      rotate_left
      · (intro w hSw; (try dsimp only at hSw); go_simp; try with_reducible rfl)
      try simp only [Act.put, List.setIfInBounds_toArray, List.set_cons_zero, List.set_cons_succ]
      refine tk 7 ?_ rfl (.inl ⟨by rfl, ?_⟩) ?_
      rotate_left
      · (intro w hSw; (try dsimp only at hSw); go_simp; try with_reducible rfl)
      try simp only [Act.put, List.setIfInBounds_toArray, List.set_cons_zero, List.set_cons_succ]
      refine tk 8 ?_ rfl (.inl ⟨by rfl, ?_⟩) ?_
      rotate_left
      · (intro w hSw; (try dsimp only at hSw); go_simp; try with_reducible rfl)
      try simp only [Act.put, List.setIfInBounds_toArray, List.set_cons_zero, List.set_cons_succ]
      refine tk 9 ?_ rfl (.inl ⟨by rfl, ?_⟩) ?_
      rotate_left
      · (intro w hSw; (try dsimp only at hSw); go_simp; try with_reducible rfl)
      try simp only [Act.put, List.setIfInBounds_toArray, List.set_cons_zero, List.set_cons_succ]
      refine tk 10 ?_ rfl (.inl ⟨by rfl, ?_⟩) ?_
      rotate_left
      · (intro w hSw; (try dsimp only at hSw); go_simp; try with_reducible rfl)
      try simp only [Act.put, List.setIfInBounds_toArray, List.set_cons_zero, List.set_cons_succ]
      refine tk 11 ?_ rfl (.inl ⟨by rfl, ?_⟩) ?_
      rotate_left
      · (intro w hSw; (try dsimp only at hSw); go_simp; try with_reducible rfl)
      try simp only [Act.put, List.setIfInBounds_toArray, List.set_cons_zero, List.set_cons_succ]
      refine tk 12 ?_ rfl (.inl ⟨by rfl, ?_⟩) ?_
      rotate_left
      · (intro w hSw; (try dsimp only at hSw); go_simp; try with_reducible rfl)
      try simp only [Act.put, List.setIfInBounds_toArray, List.set_cons_zero, List.set_cons_succ]
      refine tk 13 ?_ rfl (.inl ⟨by rfl, ?_⟩) ?_
      rotate_left
      · (intro w hSw; (try dsimp only at hSw); go_simp; try with_reducible rfl)
      try simp only [Act.put, List.setIfInBounds_toArray, List.set_cons_zero, List.set_cons_succ]
      refine tk 14 ?_ rfl (.inl ⟨by rfl, ?_⟩) ?_
      rotate_left
      · (intro w hSw; (try dsimp only at hSw); go_simp; try with_reducible rfl)
      try simp only [Act.put, List.setIfInBounds_toArray, List.set_cons_zero, List.set_cons_succ]
      refine tk 15 ?_ rfl (.inl ⟨by rfl, ?_⟩) ?_
      rotate_left
      · (intro w hSw; (try dsimp only at hSw); go_simp; try with_reducible rfl)
      try simp only [Act.put, List.setIfInBounds_toArray, List.set_cons_zero, List.set_cons_succ]
      have HR := Lib.hid (HNo.out _ 2 (by unfold loopR; rw [seq_ok R1.out, seq_ok R2.out, HLo.out]; rfl) (by decide) HB2.out.drew)
      refine wpAnyH_ready (rs := [16]) (by kernel_rfl) (by simp) ?_
      refine rdy rfl (fun K hK => ?_) AllReadyH.nil
      go_simp
      refine (must_no 2 _).mono ?_
      rintro e w' ⟨rfl, rfl⟩
      unfold Pn
      exact ⟨rfl, HR.out⟩
    refine wp_region_held_drew (S := fun W => W.cell? ⟨w.heap.size + 1, 0, none⟩ = some (.pointer (some ⟨b, o, none⟩)) ∧ W.cell? ⟨b, o + 12, none⟩ = some (.int .u64 (y.low : Int)) ∧ W.cell? ⟨b, o + 13, none⟩ = some (.int .u64 (y.high : Int))) (by kernel_rfl) ?_ (fun hHeld => ?_)
    · exact ⟨s0, s2, s3⟩
    refine tk 0 ?_ rfl (.inl ⟨by rfl, ?_⟩) ?_
    rotate_left
    · (intro w hSw; (try dsimp only at hSw); go_simp; try with_reducible rfl)
    try simp only [Act.put, List.setIfInBounds_toArray, List.set_cons_zero, List.set_cons_succ]
    refine tk 1 ?_ rfl (.inl ⟨by rfl, ?_⟩) ?_
    rotate_left
    · (intro w hSw; (try dsimp only at hSw); go_simp; try with_reducible rfl)
    try simp only [Act.put, List.setIfInBounds_toArray, List.set_cons_zero, List.set_cons_succ]
    refine tk 2 ?_ rfl (.inl ⟨by rfl, ?_⟩) ?_
    rotate_left
    · (intro w hSw; (try dsimp only at hSw); go_simp; try with_reducible rfl)
    try simp only [Act.put, List.setIfInBounds_toArray, List.set_cons_zero, List.set_cons_succ]
    refine tk 3 ?_ rfl (.inl ⟨by rfl, ?_⟩) ?_
    rotate_left
    · (intro w hSw; (try dsimp only at hSw); go_simp; try with_reducible rfl)
    try simp only [Act.put, List.setIfInBounds_toArray, List.set_cons_zero, List.set_cons_succ]
    refine tk 4 ?_ rfl (.inl ⟨by rfl, ?_⟩) ?_
    rotate_left
    · (intro w hSw; (try dsimp only at hSw); go_simp; try with_reducible rfl)
    try simp only [Act.put, List.setIfInBounds_toArray, List.set_cons_zero, List.set_cons_succ]
    refine tk 5 ?_ rfl (.inl ⟨by rfl, ?_⟩) ?_
    rotate_left
    · (intro w hSw; (try dsimp only at hSw); go_simp; try with_reducible rfl)
    try simp only [Act.put, List.setIfInBounds_toArray, List.set_cons_zero, List.set_cons_succ]
    refine tk 6 ?_ rfl (.inl ⟨by rfl, ?_⟩) ?_
    rotate_left
    · (intro w hSw; (try dsimp only at hSw); go_simp; try with_reducible rfl)
    try simp only [Act.put, List.setIfInBounds_toArray, List.set_cons_zero, List.set_cons_succ]
    refine tk 7 ?_ rfl (.inl ⟨by rfl, ?_⟩) ?_
    rotate_left
    · (intro w hSw; (try dsimp only at hSw); go_simp; try with_reducible rfl)
    try simp only [Act.put, List.setIfInBounds_toArray, List.set_cons_zero, List.set_cons_succ]
    refine tk 8 ?_ rfl (.inl ⟨by rfl, ?_⟩) ?_
    rotate_left
    · (intro w hSw; (try dsimp only at hSw); go_simp; try with_reducible rfl)
    try simp only [Act.put, List.setIfInBounds_toArray, List.set_cons_zero, List.set_cons_succ]
    refine tk 9 ?_ rfl (.inl ⟨by rfl, ?_⟩) ?_
    rotate_left
    · (intro w hSw; (try dsimp only at hSw); go_simp; try with_reducible rfl)
    try simp only [Act.put, List.setIfInBounds_toArray, List.set_cons_zero, List.set_cons_succ]
    refine tk 10 ?_ rfl (.inl ⟨by rfl, ?_⟩) ?_
    rotate_left
    · (intro w hSw; (try dsimp only at hSw); go_simp; try with_reducible rfl)
    try simp only [Act.put, List.setIfInBounds_toArray, List.set_cons_zero, List.set_cons_succ]
    refine tk 11 ?_ rfl (.inl ⟨by rfl, ?_⟩) ?_
    rotate_left
    · (intro w hSw; (try dsimp only at hSw); go_simp; try with_reducible rfl)
    try simp only [Act.put, List.setIfInBounds_toArray, List.set_cons_zero, List.set_cons_succ]
    refine tk 12 ?_ rfl (.inl ⟨by rfl, ?_⟩) ?_
    rotate_left
    · (intro w hSw; (try dsimp only at hSw); go_simp; try with_reducible rfl)
    try simp only [Act.put, List.setIfInBounds_toArray, List.set_cons_zero, List.set_cons_succ]
    refine tk 13 ?_ rfl (.inl ⟨by rfl, ?_⟩) ?_
    rotate_left
    · (intro w hSw; (try dsimp only at hSw); go_simp; try with_reducible rfl)
    try simp only [Act.put, List.setIfInBounds_toArray, List.set_cons_zero, List.set_cons_succ]
    refine tk 14 ?_ rfl (.inl ⟨by rfl, ?_⟩) ?_
    rotate_left
    · (intro w hSw; (try dsimp only at hSw); go_simp; try with_reducible rfl)
    try simp only [Act.put, List.setIfInBounds_toArray, List.set_cons_zero, List.set_cons_succ]
    refine tk 15 ?_ rfl (.inl ⟨by rfl, ?_⟩) ?_
    rotate_left
    · (intro w hSw; (try dsimp only at hSw); go_simp; try with_reducible rfl)
    try simp only [Act.put, List.setIfInBounds_toArray, List.set_cons_zero, List.set_cons_succ]
    refine wpAnyH_ready (rs := [16]) (by kernel_rfl) (by simp) ?_
    refine rdy rfl (fun K hK => ?_) AllReadyH.nil
    go_simp
    refine (must_yes 2 _).mono ?_
    rintro e w' ⟨rfl, hw⟩
    subst hw
    refine hK.out _ _ ?_ (fun hHeld => ?_)
    · exact ⟨s0, s2, s3⟩
    clear hK K
    try simp only [Act.put, List.setIfInBounds_toArray, List.set_cons_zero, List.set_cons_succ]
    refine wpAnyH_done (by kernel_rfl) ?_ _
    have R3 := Lib.hid (show loopB y = 0 from HLo.out)
    clear HLo HT ht1 ht2 hn1 hn2
    go_wp2_with fail
    go_quiet (fail)
    go_wp2_with fail
    have HB3 := Lib.hid (below_drewN HB2.out.drew nq)
    generalize w2.drew.drewN nq = w3 at HB3 ⊢
    clear c0 c1 c2 c3 c4 s0 s1 s2 s3 p0 p1 p2 p3
    obtain ⟨s0, s1, s2, s3⟩ := HS.out _ HB3.out
    obtain ⟨p0, p1, p2, p3⟩ := HQ.out _ HB3.out
    go_still_tail 8, (by kernel_rfl)
    change wpList _ _ _ _ _ (World.drew _)
    go_wp2_with fail
    refine (HRt.out _ HB3.out.drew).mono ?_
    rintro z w4 ⟨rfl, rfl⟩
    obtain ⟨q, hq⟩ : ∃ q, fn.rets.any (fun z => z == y.name) = q := ⟨_, rfl⟩
    rw [hq]
    cases q with
    | true =>
      have HR := Lib.hid (HNo.out _ 2 (by unfold loopR loopC; rw [seq_ok R1.out, seq_ok R2.out, seq_ok R3.out, hq]; rfl) (by decide) HB3.out.drew)
      clear hq
      go_wp2_with (go_at_call 57; refine (must_no 2 _).mono ?_; rintro e w' ⟨rfl, hw⟩; subst hw; unfold Pn)
      exact ⟨rfl, HR.out⟩
    | false =>
      have R4 := Lib.hid (show loopC fn y = 0 by unfold loopC; rw [hq]; rfl)
      clear hq s0 s1 s2 s3 p0 p1 p2 p3
      have HB4 := Lib.hid HB3.out.drew
      obtain ⟨p0, p1, p2, p3⟩ := HQ.out _ HB4.out
      go_wp2_with (go_at_call 57; refine (must_yes 2 _).mono ?_; rintro e w' ⟨rfl, hw⟩; subst hw)
      refine (HPr.out _ HB4.out).mono ?_
      rintro z w6 ⟨rfl, hB6⟩
      have HB6 := Lib.hid (HB4.out.trans (hB6.mono HB4.out.size))
      clear hB6 p0 p1 p2 p3
      obtain ⟨q, hq⟩ : ∃ q, fn.params.any (named y.name) = q := ⟨_, rfl⟩
      rw [hq]
      cases q with
      | true =>
        have HR := Lib.hid (HNo.out _ 2 (by unfold loopR loopD; rw [seq_ok R1.out, seq_ok R2.out, seq_ok R3.out, seq_ok R4.out, hq]; rfl) (by decide) HB6.out)
        clear hq
        go_wp2_with (go_at_call 57; refine (must_no 2 _).mono ?_; rintro e w' ⟨rfl, hw⟩; subst hw; unfold Pn)
        exact ⟨rfl, HR.out⟩
      | false =>
        have HR := Lib.hid (HOK.out _ (by unfold loopR loopD; rw [seq_ok R1.out, seq_ok R2.out, seq_ok R3.out, seq_ok R4.out, hq]; rfl) HB6.out)
        clear hq
        go_wp2_with (go_at_call 57; refine (must_yes 2 _).mono ?_; rintro e w' ⟨rfl, hw⟩; subst hw)
        go_end0
        exact HR.out
end Go.Proofs.Ytnghehcjklkoeaa
