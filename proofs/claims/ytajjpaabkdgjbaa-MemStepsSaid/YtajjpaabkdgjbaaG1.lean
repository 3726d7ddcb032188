/- The document's addresses of words that are not 0. -/
import Derived.Test.YtajjpaabkdgjbaaF1
import Derived.Test.YtajjpaabkdgjbaaD4
namespace Go.Proofs.Ytajjpaabkdgjbaa
open Go.RowKit

def adrs (f : Nat → Nat) (k : Nat) : List Nat := (nz f k).map (8 * ·)
theorem adrs_len (f : Nat → Nat) (k : Nat) : (adrs f k).length = (nz f k).length := by simp [adrs]
theorem adrs_yes {f : Nat → Nat} {k : Nat} (h : f k ≠ 0) : adrs f (k + 1) = adrs f k ++ [8 * k] := by unfold adrs; rw [nz_yes h]; simp
theorem adrs_no {f : Nat → Nat} {k : Nat} (h : f k = 0) : adrs f (k + 1) = adrs f k := by unfold adrs; rw [nz_no h]
set_option maxRecDepth 100000 in
set_option maxHeartbeats 3200000 in
theorem full_any (l : List Rg) (f bt : Nat → Nat) (B g : Nat) (w : World) (h : RefIs w B g l bt) (hr : RelWB f bt) (hf : ∀ j, f j < 18446744073709551616) :
    Calls Try.prog 45 #[.pointer (some ⟨g, 0, none⟩)] w fun e w' => (∃ v, e = .returned v ∧ w'.ownsRow w.heap.size 25 1 v (adrs f 8192).length (u64s (adrs f 8192))) ∧ Below w.heap.size w w' := by
  obtain ⟨it, hi, hz0, hz1, hz2⟩ := info_parts info_u64
  have hb8 : ∀ j, bt j < 256 := by obtain ⟨_, _, _, _, _, _, _, _, _, _, _, _, _, _, hb⟩ := h; exact hb
  have HM := Lib.hid h
  have HW := Lib.hid (fun k hk => word_eq hr hb8 hf k hk)
  clear h hr hb8
  go_enter Try.func45, Try.ntmps45
  go_wp2_with fail
  go_loopw [3, 4] (fun x i wr => ∃ (k : Nat) (z : Int), i = .int .i64 z ∧ z = 8 * k ∧ k ≤ 8192 ∧ Hid (wr.ownsRow w.heap.size 25 1 x (adrs f k).length (u64s (adrs f k))) ∧ Hid (Below w.heap.size w wr)) (fun _ i _ => 65536 - (intOf i).toNat)
  case atStart => exact ⟨0, 0, rfl, rfl, by omega, Lib.hid ⟨rfl, .inl ⟨rfl, rfl⟩⟩, Lib.hid (Below.refl _ _)⟩
  case round =>
    obtain ⟨k, z, rfl, hz, hk, hO, hB⟩ := hrel
    by_cases hlt : k < 8192
    · have HGt := Lib.hid (get_any l bt B g (8 * k) wr (HM.out.later hB.out) (by omega))
      rw [HW.out k hlt] at HGt
      simp only [Int.natCast_mul, Int.cast_ofNat_Int] at HGt
      rw [← hz] at HGt
      have i1 : z < 65536 := by omega
      have i0 : 0 ≤ z := by omega
      have HZ := Lib.hid hz
      clear hz
      have hwz := hB.out.size
      have hnl : (adrs f k).length ≤ k := by rw [adrs_len]; exact nz_len f k
      by_cases h0 : f k = 0
      · rw [h0] at HGt
        have HO := Lib.hid (show wr.ownsRow w.heap.size 25 1 u3 (adrs f (k + 1)).length (u64s (adrs f (k + 1))) by rw [adrs_no h0]; exact hO.out)
        go_wp2_with fail
        refine HGt.out.mono ?_
        rintro e w' ⟨rfl, rfl⟩
        go_wp2_with fail
        go_roundw
        case rel => exact ⟨k + 1, z + 8, rfl, by have := HZ.out; omega, by omega, HO, hB⟩
        case measure => simp [intOf]; omega
      · have h1 : (f k : Int) ≠ 0 := by omega
        have HS := Lib.hid (show (adrs f (k + 1)).length = (adrs f k).length + 1 ∧ u64s (adrs f (k + 1)) = u64s (adrs f k) ++ [.int .u64 (8 * (k : Int))] by rw [adrs_yes h0]; exact ⟨by simp, by simp [u64s]⟩)
        go_wp2_with fail
        refine HGt.out.mono ?_
        rintro e w' ⟨rfl, rfl⟩
        go_wp2_with (at_builtin; refine wpList_append_own _ rfl _ _ 54 rfl w.heap.size 25 it (.int .u64 0) 1 8 Try.underlying54 hi hz0 hz1 hz2 rfl (by decide) _ _ _ rfl (hO.out.alloc _) ⟨wr.heap.size, 0, none⟩ 1 1 [.int .u64 (8 * (k : Int))] rfl rfl ?c1 ?c2 ?c3 ?c4 ?c5 ?_)
        case c1 => intro j u hj; match j, hj with
          | 0, hj =>
            have hz' := HZ.out
            simp at hj; subst hj; simp [go_sem, Addr.add]
            omega
        case c2 => intro u hu; simp at hu; subst hu; rfl
        case c3 => unfold maxLen; omega
        case c4 => omega
        case c5 => simp; omega
        intro v' w1 hown' hgrow _
        have HO1 := Lib.hid (show w1.ownsRow w.heap.size 25 1 v' (adrs f (k + 1)).length (u64s (adrs f (k + 1))) by rw [HS.out.1, HS.out.2]; exact hown')
        have HB3 := Lib.hid ((hB.out.alloc hB.out.size _).grown hgrow (by simp; omega) (fun k hk => (hO.out.lt k hk).1))
        clear hown' hgrow
        go_wp2_with fail
        go_roundw
        case rel => exact ⟨k + 1, z + 8, rfl, by have := HZ.out; omega, by omega, HO1, HB3⟩
        case measure => simp [intOf]; omega
    · obtain rfl : z = 65536 := by omega
      obtain rfl : k = 8192 := by omega
      clear hz
      go_wp2_with fail
      go_ret
      exact ⟨⟨_, rfl, hO.out⟩, hB.out⟩
end Go.Proofs.Ytajjpaabkdgjbaa
