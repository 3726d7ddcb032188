/- Texts are spoilt in some blocks alone: a program. -/
import Derived.Test.YtnghehcjklkoeaaPE
import Derived.Test.YtnghehcjklkoeaaPM
namespace Go.Proofs.Ytnghehcjklkoeaa
open Go.RowKit

/-- a program's parts, in any world where texts alone were spoilt -/
structure FnSp (S : Nat → Bool) (W : World) (y : Fnc) (s : FncP) (b o : Nat) : Prop where
  c1 : W.cell? ⟨b, o + 1, none⟩ = some (.slice s.pp y.params.length s.cp)
  c2 : W.cell? ⟨b, o + 2, none⟩ = some (.slice s.pv y.vars.length s.cv)
  c3 : W.cell? ⟨b, o + 3, none⟩ = some (.slice s.pr y.rets.length s.cr)
  c4 : W.cell? ⟨b, o + 4, none⟩ = some (.slice s.pb y.body.len s.cb)
  c0 : ∃ t : List UInt8, W.cell? ⟨b, o, none⟩ = some (.string (str t))
  f0 : W.frozen? ⟨b, o, none⟩ = false
  sb : S b = true
theorem text_at {S : Nat → Bool} {w W : World} {N b o : Nat} {s : List UInt8} (h : (cut S w).cell? ⟨b, o, none⟩ = some (.string (str s))) (hW : Spl S w W) (hN : N ≤ w.heap.size) (hF : Wr S N w) : ∃ t : List UInt8, W.cell? ⟨b, o, none⟩ = some (.string (str t)) ∧ W.frozen? ⟨b, o, none⟩ = false ∧ S b = true := by
  obtain ⟨t, ht⟩ := (hW.spo.cut S).str h
  have h1 := cell_cut_some ht
  exact ⟨t, h1.2, (Wr.spl hW hN hF b h1.1).2 _, h1.1⟩
theorem row_text {α : Type} {A : World → α → Nat → Nat → Prop} {k : Nat} {nm : α → List UInt8} (hA : ∀ w x b o, A w x b o → w.cell? ⟨b, o, none⟩ = some (.string (str (nm x)))) {S : Nat → Bool} {w W : World} {N : Nat} {l : List α} {p : Option Addr} (h : RowIn N (A (cut S w)) k l p) (hW : Spl S w W) (hN : N ≤ w.heap.size) (hF : Wr S N w) (j : Nat) (hj : j < l.length) :
    ∃ (b o : Nat) (t : List UInt8), p = some ⟨b, o, none⟩ ∧ W.cell? ⟨b, o + j * k, none⟩ = some (.string (str t)) ∧ W.frozen? ⟨b, o + j * k, none⟩ = false ∧ S b = true := by
  rcases h.2 with h0 | ⟨b, o, hq, _, hrow⟩
  · omega
  · obtain ⟨t, h1, h2, h3⟩ := text_at (hA _ _ _ _ (Row.get (i := j) (x := l[j]'hj) hrow (List.getElem?_eq_getElem _))) hW hN hF
    exact ⟨b, o, t, hq, h1, h2, h3⟩
set_option maxRecDepth 100000 in
set_option maxHeartbeats 6400000 in
theorem spoil_any (x : Prg) (p q : Option Addr) (c d N : Nat) (S : Nat → Bool) (w : World) (h : x.Ok (cut S w) N p q) (hN : N ≤ w.heap.size) (hF : Wr S N w) :
    Calls Try.prog 11 #[x.val p q c d] w fun z w' => z = .returned (.tuple #[]) ∧ Spl S w w' := by
  obtain ⟨W0, hW0, k0, hB0, hz0⟩ := one_alloc w (.cells #[.slice p x.regs.length c, .slice q x.fns.length d] 25)
  have HS0 := Lib.hid (show Spl S w W0 by rw [← hW0]; exact Spl.alloc S w _ _)
  have hSN : ∀ g, w.heap.size ≤ g → S g = false := fun g hg => by
    cases hs : S g with
    | false => rfl
    | true => have := (hF g hs).1; omega
  have HSN := Lib.hid hSN
  have HP := Lib.hid (fun (W : World) (hW : Spl S W0 W) => show W.cell? ⟨w.heap.size, 0, none⟩ = some (.slice p x.regs.length c) ∧ W.cell? ⟨w.heap.size, 1, none⟩ = some (.slice q x.fns.length d) from
    ⟨cell_blk ((hW.block _ (lt_blk k0) (hSN _ (Nat.le_refl _))).trans k0) rfl, cell_blk ((hW.block _ (lt_blk k0) (hSN _ (Nat.le_refl _))).trans k0) rfl⟩)
  have hm1 := h.1.1
  have hm2 := h.2.1
  have HRg := Lib.hid (fun (W : World) (hW : Spl S W0 W) (j : Nat) (hj : j < x.regs.length) => row_text (nm := Rgn.name) (fun _ _ _ _ h => h.1) h.1 (HS0.out.trans hW) hN hF j hj)
  have HFn := Lib.hid (fun (j : Nat) (hj : j < x.fns.length) => show ∃ (b o : Nat) (y : Fnc) (s : FncP), q = some ⟨b, o, none⟩ ∧ (∀ W, Spl S W0 W → FnSp S W y s b (o + j * 5)) ∧ y.params.length ≤ 140737488355328 ∧ y.vars.length ≤ 140737488355328 ∧ y.rets.length ≤ 140737488355328 ∧
      (∀ W, Spl S W0 W → ∀ j, j < y.params.length → ∃ (b o : Nat) (t : List UInt8), s.pp = some ⟨b, o, none⟩ ∧ W.cell? ⟨b, o + j * 4, none⟩ = some (.string (str t)) ∧ W.frozen? ⟨b, o + j * 4, none⟩ = false ∧ S b = true) ∧
      (∀ W, Spl S W0 W → ∀ j, j < y.vars.length → ∃ (b o : Nat) (t : List UInt8), s.pv = some ⟨b, o, none⟩ ∧ W.cell? ⟨b, o + j * 4, none⟩ = some (.string (str t)) ∧ W.frozen? ⟨b, o + j * 4, none⟩ = false ∧ S b = true) ∧
      (∀ W, Spl S W0 W → ∀ j, j < y.rets.length → ∃ (b o : Nat) (t : List UInt8), s.pr = some ⟨b, o, none⟩ ∧ W.cell? ⟨b, o + j, none⟩ = some (.string (str t)) ∧ W.frozen? ⟨b, o + j, none⟩ = false ∧ S b = true) ∧
      (∀ W, Spl S W0 W → Calls Try.prog 29 #[.slice s.pb y.body.len s.cb] W fun z w' => z = .returned (.tuple #[]) ∧ Spl S W w') from by
    rcases h.2.2 with h0 | ⟨b, o, hq, _, hrow⟩
    · omega
    · obtain ⟨s, hc, hok⟩ := (Row.get (i := j) (x := x.fns[j]'hj) hrow (List.getElem?_eq_getElem _)).open
      refine ⟨b, o, x.fns[j]'hj, s, hq, fun W hW => ?_, hok.1.1, hok.2.1.1, hok.2.2.1.2.1, fun W hW => row_text (nm := Vr.name) (fun _ _ _ _ h => h.1) hok.1 (HS0.out.trans hW) hN hF, fun W hW => row_text (nm := Vr.name) (fun _ _ _ _ h => h.1) hok.2.1 (HS0.out.trans hW) hN hF, fun W hW j hj => ?_, fun W hW => ?_⟩
      · have hT := HS0.out.trans hW
        obtain ⟨t, h1, h2, h3⟩ := text_at (hc 0 _ rfl) hT hN hF
        exact ⟨(cell_cut_some ((hT.spo.cut S).sl (hc 1 _ rfl))).2, (cell_cut_some ((hT.spo.cut S).sl (hc 2 _ rfl))).2, (cell_cut_some ((hT.spo.cut S).sl (hc 3 _ rfl))).2, (cell_cut_some ((hT.spo.cut S).sl (hc 4 _ rfl))).2, ⟨t, h1⟩, h2, h3⟩
      · obtain ⟨b, o, t, h1, h2, h3, h4⟩ := row_text (nm := fun s => s) (fun _ _ _ _ h => h) hok.2.2.1.2 (HS0.out.trans hW) hN hF j hj
        rw [Nat.mul_one] at h2 h3
        exact ⟨b, o, t, h1, h2, h3, h4⟩
      · have hT := HS0.out.trans hW
        obtain ⟨l, hl1, hl2⟩ := hok.2.2.2.spo (hT.spo.cut S)
        have := sps_to _ l (Nat.lt_succ_self _) s.pb s.cb N S W hl2 (Nat.le_trans hN hT.size) (Wr.spl hT hN hF)
        rw [hl1.2] at this; exact this)
  unfold Prg.val
  generalize x.regs.length = nr at hm1 HP HRg hW0 k0 ⊢
  generalize x.fns.length = nf at hm2 HP HFn hW0 k0 ⊢
  have HWz := Lib.hid (show w.heap.size < W0.heap.size by omega)
  clear h hN hF hSN hB0 hz0 k0
  go_enter Try.func11, Try.ntmps11
  go_wp2_with fail
  clear hW0
  go_loopw [2] (fun i wr => ∃ k : Nat, i = .int .i64 k ∧ k ≤ nr ∧ Hid (Spl S W0 wr)) (fun i _ => nr - (intOf i).toNat)
  case atStart => exact ⟨0, rfl, Nat.zero_le _, Lib.hid (Spl.refl S W0)⟩
  case round =>
    obtain ⟨k, rfl, hk, hX⟩ := hrel
    obtain ⟨wp, rfl⟩ : ∃ wp : World, wp = wr := ⟨_, rfl⟩
    obtain ⟨p0, p1⟩ := HP.out wp hX.out
    by_cases hkn : k < nr
    · obtain ⟨b, o, t, rfl, hc, hf, hS⟩ := HRg.out wp hX.out k hkn
      have HX2 := Lib.hid (hX.out.trans (Spl.put [115, 112, 111, 105, 108, 116] hS hc))
      clear hS p1
      go_wp2_with fail
      go_roundw
      case rel => exact ⟨k + 1, by go_num, hkn, HX2⟩
      case measure => simp [intOf]; omega
    clear p1
    go_wp2_with fail
    clear p0
    go_loopw [3] (fun i wr => ∃ k : Nat, i = .int .i64 k ∧ k ≤ nf ∧ Hid (Spl S W0 wr)) (fun i _ => nf - (intOf i).toNat)
    case atStart => exact ⟨0, rfl, Nat.zero_le _, hX⟩
    case round =>
      clear hX hk hkn
      obtain ⟨k, rfl, hk, hX⟩ := hrel
      obtain ⟨wp, rfl⟩ : ∃ wp : World, wp = wr := ⟨_, rfl⟩
      obtain ⟨p0, p1⟩ := HP.out wp hX.out
      by_cases hkn : k < nf
      rotate_left
      · clear p0
        go_wp2_with fail
        go_end0
        exact ⟨rfl, HS0.out.trans hX.out⟩
      obtain ⟨b, o, y, s, rfl, hFs, hl1, hl2, hl3, hPs, hVs, hRs, hBs⟩ := HFn.out k hkn
      have HFs := Lib.hid hFs
      have HPs := Lib.hid hPs
      have HVs := Lib.hid hVs
      have HRs := Lib.hid hRs
      have HBs := Lib.hid hBs
      obtain ⟨e1, e2, e3, e4, ⟨t0, e0⟩, ef, es⟩ := hFs wp hX.out
      clear hFs hPs hVs hRs hBs ef es p0
      generalize y.params.length = n1 at e1 hl1 HPs HFs
      generalize y.vars.length = n2 at e2 hl2 HVs HFs
      generalize y.rets.length = n3 at e3 hl3 HRs HFs
      generalize y.body.len = n4 at e4 HBs HFs

      obtain ⟨W1, hW1, k1, hB1, hz1⟩ := one_alloc wp (.cells #[.string (str t0), .slice s.pp n1 s.cp, .slice s.pv n2 s.cv, .slice s.pr n3 s.cr, .slice s.pb n4 s.cb] 55)
      have HT1 := Lib.hid (show Spl S W0 W1 from hX.out.trans (by rw [← hW1]; exact Spl.alloc S wp _ _))
      have hSg : S wp.heap.size = false := HSN.out _ (Nat.le_trans (Nat.le_of_lt HWz.out) hX.out.size)
      have HG := Lib.hid (fun (W : World) (hW : Spl S W1 W) => show W.cell? ⟨wp.heap.size, 1, none⟩ = some (.slice s.pp n1 s.cp) ∧ W.cell? ⟨wp.heap.size, 2, none⟩ = some (.slice s.pv n2 s.cv) ∧ W.cell? ⟨wp.heap.size, 3, none⟩ = some (.slice s.pr n3 s.cr) ∧ W.cell? ⟨wp.heap.size, 4, none⟩ = some (.slice s.pb n4 s.cb) from by
        have hk := (hW.block _ (lt_blk k1) hSg).trans k1
        exact ⟨cell_blk hk rfl, cell_blk hk rfl, cell_blk hk rfl, cell_blk hk rfl⟩)
      clear k1 hB1 hz1 hSg
      go_wp2_with fail
      clear hW1 e0 e1 e2 e3 e4 p1
      generalize wp.heap.size = G at HG ⊢
      go_loopw [5] (fun i wr => ∃ j : Nat, i = .int .i64 j ∧ j ≤ n1 ∧ Hid (Spl S W1 wr)) (fun i _ => n1 - (intOf i).toNat)
      case atStart => exact ⟨0, rfl, Nat.zero_le _, Lib.hid (Spl.refl S W1)⟩
      case round =>
        obtain ⟨j5, rfl, hj, hY5⟩ := hrel
        obtain ⟨w5, rfl⟩ : ∃ w5 : World, w5 = wr := ⟨_, rfl⟩
        have c5 := (HG.out w5 hY5.out).1
        by_cases hjn : j5 < n1
        · obtain ⟨b', o', t', hq, hc, hf, hS⟩ := HPs.out w5 (HT1.out.trans hY5.out) j5 hjn
          rw [hq] at c5
          have HY2 := Lib.hid (hY5.out.trans (Spl.put [115, 112, 111, 105, 108, 116] hS hc))
          clear hq hS
          go_wp2_with fail
          go_roundw
          case rel => exact ⟨j5 + 1, by go_num, hjn, HY2⟩
          case measure => simp [intOf]; omega
        go_wp2_with fail
        clear c5 hj hjn
        go_loopw [6] (fun i wr => ∃ j : Nat, i = .int .i64 j ∧ j ≤ n2 ∧ Hid (Spl S W1 wr)) (fun i _ => n2 - (intOf i).toNat)
        case atStart => exact ⟨0, rfl, Nat.zero_le _, hY5⟩
        case round =>
          obtain ⟨j6, rfl, hj, hY6⟩ := hrel
          obtain ⟨w6, rfl⟩ : ∃ w6 : World, w6 = wr := ⟨_, rfl⟩
          have c6 := (HG.out w6 hY6.out).2.1
          by_cases hjn : j6 < n2
          · obtain ⟨b', o', t', hq, hc, hf, hS⟩ := HVs.out w6 (HT1.out.trans hY6.out) j6 hjn
            rw [hq] at c6
            have HY2 := Lib.hid (hY6.out.trans (Spl.put [115, 112, 111, 105, 108, 116] hS hc))
            clear hq hS
            go_wp2_with fail
            go_roundw
            case rel => exact ⟨j6 + 1, by go_num, hjn, HY2⟩
            case measure => simp [intOf]; omega
          go_wp2_with fail
          clear c6 hj hjn
          go_loopw [7] (fun i wr => ∃ j : Nat, i = .int .i64 j ∧ j ≤ n3 ∧ Hid (Spl S W1 wr)) (fun i _ => n3 - (intOf i).toNat)
          case atStart => exact ⟨0, rfl, Nat.zero_le _, hY6⟩
          case round =>
            obtain ⟨j7, rfl, hj, hY7⟩ := hrel
            obtain ⟨w7, rfl⟩ : ∃ w7 : World, w7 = wr := ⟨_, rfl⟩
            have c7 := (HG.out w7 hY7.out).2.2.1
            by_cases hjn : j7 < n3
            · obtain ⟨b', o', t', hq, hc, hf, hS⟩ := HRs.out w7 (HT1.out.trans hY7.out) j7 hjn
              rw [hq] at c7
              have HY2 := Lib.hid (hY7.out.trans (Spl.put [115, 112, 111, 105, 108, 116] hS hc))
              clear hq hS
              go_wp2_with fail
              go_roundw
              case rel => exact ⟨j7 + 1, by go_num, hjn, HY2⟩
              case measure => simp [intOf]; omega
            have c4 := (HG.out _ hY7.out).2.2.2
            go_wp2_with fail
            clear c7 hj hjn
            have HC := Lib.hid (HBs.out _ (HT1.out.trans hY7.out))
            refine HC.out.mono ?_
            rintro z w8 ⟨rfl, hX8⟩
            have HX8 := Lib.hid ((HT1.out.trans hY7.out).trans hX8)
            clear hX8 HC c4
            obtain ⟨_, _, _, _, ⟨t9, c9⟩, f9, s9⟩ := HFs.out _ HX8.out
            obtain ⟨_, p9⟩ := HP.out _ HX8.out
            have HX9 := Lib.hid (HX8.out.trans (Spl.put [115, 112, 111, 105, 108, 116] s9 c9))
            clear s9
            go_wp2_with fail
            go_roundw
            case rel => exact ⟨k + 1, by go_num, hkn, HX9⟩
            case measure => simp [intOf]; omega
end Go.Proofs.Ytnghehcjklkoeaa
