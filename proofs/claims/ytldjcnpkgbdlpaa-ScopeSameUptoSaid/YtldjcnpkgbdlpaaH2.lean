/- slices.Concat of two lists of variables. -/
import Derived.Test.YtldjcnpkgbdlpaaH1
namespace Go.Proofs.Ytldjcnpkgbdlpaa
open Go.RowKit

theorem own_blk {w : World} {B n size : Nat} {e : TypeId} {v : Value} {xs : List Value} (h : w.ownsRow B e size v n xs) : ∀ j, v.ownBlock = some j → B ≤ j := by
  intro j hj
  rcases h.2 with ⟨rfl, _⟩ | ⟨g, cap, cur, rfl, hg, _⟩
  · cases hj
  · cases hj; exact hg
set_option maxRecDepth 100000 in
set_option maxHeartbeats 6400000 in
theorem concat_any (ps vs : List Vr) (pp pv : Option Addr) (cp cv g N : Nat) (w : World) (hg : w.heap[g]? = some (.cells #[.slice pp ps.length cp, .slice pv vs.length cv] 31 (0, 0))) (h1 : RowIn N (Vr.At w) 4 ps pp) (h2 : RowIn N (Vr.At w) 4 vs pv) (hN : N ≤ w.heap.size) (hs : ps.length + vs.length ≤ 1000) :
    Calls Try.prog 51 #[.slice (some ⟨g, 0, none⟩) 2 2] w fun z w' => ∃ p c, z = .returned (.slice p (ps ++ vs).length c) ∧ RowIn w'.heap.size (Vr.At w') 4 (ps ++ vs) p ∧ Below w.heap.size w w' := by
  obtain ⟨i0, hi, hz0, hz1, hz2⟩ := info_parts infoVr
  have c0 : w.cell? ⟨g, 0, none⟩ = some (.slice pp ps.length cp) := cell_blk hg rfl
  have c1 : w.cell? ⟨g, 1, none⟩ = some (.slice pv vs.length cv) := cell_blk hg rfl
  have hw1 : IntKind.i64.wrap (ps.length : Int) = (ps.length : Int) := by simp [IntKind.wrap, IntKind.bits, IntKind.signed]; omega
  have hw2 : IntKind.i64.wrap ((ps.length : Int) + (vs.length : Int)) = (ps.length : Int) + (vs.length : Int) := by simp [IntKind.wrap, IntKind.bits, IntKind.signed]; omega
  have hn0 : ¬ (ps.length : Int) < 0 := by omega
  have hn1 : ¬ (ps.length : Int) + (vs.length : Int) < 0 := by omega
  have HG := Lib.hid hg
  have H1 := Lib.hid h1
  have H2 := Lib.hid h2
  have HGr := Lib.hid (grow_any (ps.length + vs.length) (by omega) w)
  rw [show ((ps.length + vs.length : Nat) : Int) = (ps.length : Int) + (vs.length : Int) by omega] at HGr
  clear hg h1 h2
  go_enter Try.func51, Try.ntmps51
  go_wp2_with fail
  go_loopw [3, 11] (fun s i wr => ∃ k : Nat, i = .int .i64 k ∧ k ≤ 2 ∧ s = .int .i64 (if k = 0 then 0 else if k = 1 then (ps.length : Int) else (ps.length : Int) + (vs.length : Int)) ∧ wr = w) (fun _ i _ => 2 - (intOf i).toNat)
  case atStart => exact ⟨0, rfl, by omega, rfl, rfl⟩
  case round =>
    obtain ⟨k, rfl, hk, rfl, rfl⟩ := hrel
    rcases (show k = 0 ∨ k = 1 ∨ k = 2 by omega) with rfl | rfl | rfl
    · go_wp2_with fail
      go_roundw
      case rel => exact ⟨1, by go_num, by omega, rfl, trivial⟩
      case measure => simp [intOf]
    · go_wp2_with fail
      go_roundw
      case rel => exact ⟨2, by go_num, by omega, rfl, trivial⟩
      case measure => simp [intOf]
    · go_wp2_with fail
      refine HGr.out.mono ?_
      rintro z w1 ⟨v, rfl, hv, hB⟩
      have HV := Lib.hid hv
      have HB := Lib.hid hB
      clear hv hB c0 c1
      go_wp2_with fail
      obtain ⟨wo, rfl⟩ : ∃ wo : World, wo = wr := ⟨_, rfl⟩
      go_loopw [6, 27] (fun s i wz => ∃ k : Nat, i = .int .i64 k ∧ k ≤ 2 ∧ Hid (wz.ownsRow wo.heap.size 61 4 s (if k = 0 then 0 else if k = 1 then ps.length else ps.length + vs.length) (if k = 0 then [] else if k = 1 then vrCells ps else vrCells ps ++ vrCells vs)) ∧ Hid (Below wo.heap.size wo wz)) (fun _ i _ => 2 - (intOf i).toNat)
      case atStart => exact ⟨0, rfl, by omega, HV, HB⟩
      case round =>
        obtain ⟨k, rfl, hk, hO, hB⟩ := hrel
        have c0 : wr.cell? ⟨g, 0, none⟩ = some (.slice pp ps.length cp) := cell_blk ((hB.out.block _ (lt_blk HG.out)).trans HG.out) rfl
        have c1 : wr.cell? ⟨g, 1, none⟩ = some (.slice pv vs.length cv) := cell_blk ((hB.out.block _ (lt_blk HG.out)).trans HG.out) rfl
        have HS1 := Lib.hid (vr_src (H1.out.imp (Nat.le_refl _) (Vr.At.later (hB.out.mono hN))))
        have HS2 := Lib.hid (vr_src (H2.out.imp (Nat.le_refl _) (Vr.At.later (hB.out.mono hN))))
        rcases (show k = 0 ∨ k = 1 ∨ k = 2 by omega) with rfl | rfl | rfl
        · go_wp2_with (at_builtin; refine wpList_append_src rfl _ _ 31 rfl wo.heap.size 61 i0 _ 4 40 Try.underlying31 hi hz0 hz1 hz2 rfl (by decide) _ 0 [] rfl hO.out _ _ _ (vrCells ps) rfl HS1.out (vr_one ps) (by unfold maxLen; omega) (by omega) hB.out.size ?_; intro v' w2 hown hgrow)
          have HX := Lib.hid (And.intro hown (hB.out.grown hgrow hB.out.size (own_blk hO.out)))
          clear hown hgrow c0 c1
          go_wp2_with fail
          go_roundw
          case rel => exact ⟨1, by go_num, by omega, Lib.hid (by simpa using HX.out.1), Lib.hid HX.out.2⟩
          case measure => simp [intOf]
        · have hO1 : wr.ownsRow wo.heap.size 61 4 u6 ps.length (vrCells ps) := hO.out
          go_wp2_with (at_builtin; refine wpList_append_src rfl _ _ 31 rfl wo.heap.size 61 i0 _ 4 40 Try.underlying31 hi hz0 hz1 hz2 rfl (by decide) _ ps.length (vrCells ps) rfl hO1 _ _ _ (vrCells vs) rfl HS2.out (vr_one vs) (by unfold maxLen; omega) (by omega) hB.out.size ?_; intro v' w2 hown hgrow)
          have HX := Lib.hid (And.intro hown (hB.out.grown hgrow hB.out.size (own_blk hO.out)))
          clear hown hgrow c0 c1
          go_wp2_with fail
          go_roundw
          case rel => exact ⟨2, by go_num, by omega, Lib.hid (by simpa using HX.out.1), Lib.hid HX.out.2⟩
          case measure => simp [intOf]
        · have hO2 : wr.ownsRow wo.heap.size 61 4 u6 (ps ++ vs).length (vrCells (ps ++ vs)) := by have := hO.out; simpa [vrCells] using this
          obtain ⟨p, c, rfl, hrow⟩ := own_row hO2 (by rw [List.length_append]; omega)
          have HR := Lib.hid hrow
          clear hO2 hrow hO c0 c1
          go_wp2_with fail
          go_ret
          exact ⟨p, c, rfl, HR.out, hB.out⟩
end Go.Proofs.Ytldjcnpkgbdlpaa
