/- The words that are not 0, by rising addresses. -/
import Derived.Test.YtajjpaabkdgjbaaC4
namespace Go.Proofs.Ytajjpaabkdgjbaa
open Go.RowKit

/-- the numbers of the words that are not 0, of the first k -/
def nz (f : Nat → Nat) (k : Nat) : List Nat := (List.range k).filter fun j => f j != 0
/-- their cells -/
def prow (f : Nat → Nat) (js : List Nat) : List Value := js.flatMap fun j => [.int .u64 ((8 * j : Nat) : Int), .int .u64 (f j : Nat)]
theorem nz_len (f : Nat → Nat) (k : Nat) : (nz f k).length ≤ k := by
  have := List.length_filter_le (fun j => f j != 0) (List.range k)
  simpa [nz] using this
theorem nz_yes {f : Nat → Nat} {k : Nat} (h : f k ≠ 0) : nz f (k + 1) = nz f k ++ [k] := by
  unfold nz; rw [List.range_succ, List.filter_append]; simp [h]
theorem nz_no {f : Nat → Nat} {k : Nat} (h : f k = 0) : nz f (k + 1) = nz f k := by
  unfold nz; rw [List.range_succ, List.filter_append]; simp [h]
theorem prow_snoc (f : Nat → Nat) (js : List Nat) (j : Nat) : prow f (js ++ [j]) = prow f js ++ [.int .u64 ((8 * j : Nat) : Int), .int .u64 (f j : Nat)] := by
  unfold prow; rw [List.flatMap_append]; simp
theorem info_pl : (Try.prog.info? 94).map (fun i => (i.zero, i.size, i.bytes)) = some (some (.agg #[.int .u64 0, .int .u64 0]), 2, 16) := by kernel_rfl

set_option maxRecDepth 100000 in
set_option maxHeartbeats 3200000 in
theorem filled_any (l : List Rg) (f : Nat → Nat) (B g : Nat) (w : World) (h : MemIs w B g l f) :
    Calls Try.prog 48 #[.pointer (some ⟨g, 0, none⟩)] w fun e w' => (∃ v, e = .returned v ∧ w'.ownsRow w.heap.size 94 2 v (nz f 8192).length (prow f (nz f 8192))) ∧ Below w.heap.size w w' := by
  obtain ⟨it, hi, hz0, hz1, hz2⟩ := info_parts info_pl
  have HI := Lib.hid h.isn
  have HM := Lib.hid h
  clear h
  go_enter Try.func48, Try.ntmps48
  go_wp2_with (first | (go_at_call 43; (with_reducible refine HI.out.mono ?_); rintro e w' ⟨rfl, rfl⟩))
  go_loopw [3, 13] (fun x i wr => ∃ k : Nat, i = .int .i64 k ∧ k ≤ 8192 ∧ Hid (wr.ownsRow w.heap.size 94 2 x (nz f k).length (prow f (nz f k))) ∧ Hid (Below w.heap.size w wr)) (fun _ i _ => 8192 - (intOf i).toNat)
  case atStart => exact ⟨0, rfl, by omega, Lib.hid ⟨rfl, .inl ⟨rfl, rfl⟩⟩, Lib.hid (Below.refl _ _)⟩
  case round =>
    obtain ⟨k, rfl, hk, hO, hB⟩ := hrel
    by_cases hlt : k < 8192
    · have hc := ((HM.out.later hB.out).cell k hlt).1
      have i0 : (0 : Int) ≤ (k : Int) := by omega
      have i1 : (k : Int) < 8192 := by omega
      by_cases h0 : f k = 0
      · rw [h0] at hc
        have HO := Lib.hid (show wr.ownsRow w.heap.size 94 2 u3 (nz f (k + 1)).length (prow f (nz f (k + 1))) by rw [nz_no h0]; exact hO.out)
        go_wp2_with fail
        go_roundw
        case rel => exact ⟨k + 1, by go_num, by omega, HO, hB⟩
        case measure => simp [intOf]; omega
      · have h1 : (f k : Int) ≠ 0 := by omega
        have hnl := nz_len f k
        have HS := Lib.hid (show (nz f (k + 1)).length = (nz f k).length + 1 ∧ prow f (nz f (k + 1)) = prow f (nz f k) ++ [.int .u64 ((8 * k : Nat) : Int), .int .u64 (f k : Nat)] by rw [nz_yes h0]; exact ⟨by simp, prow_snoc _ _ _⟩)
        have hwz := hB.out.size
        go_wp2_with (at_builtin; refine wpList_append_own _ rfl _ _ 90 rfl w.heap.size 94 it (.agg #[.int .u64 0, .int .u64 0]) 2 16 Try.underlying90 hi hz0 hz1 hz2 rfl (by decide) _ _ _ rfl (hO.out.alloc _) ⟨wr.heap.size, 0, none⟩ 1 1 [.int .u64 ((8 * k : Nat) : Int), .int .u64 (f k : Nat)] rfl rfl ?c1 ?c2 ?c3 ?c4 ?c5 ?_)
        case c1 => intro j u hj; match j, hj with
          | 0, hj =>
            simp at hj; subst hj; simp [go_sem, Addr.add]
            omega
          | 1, hj => simp at hj; subst hj; simp [go_sem, Addr.add]
        case c2 => intro u hu; simp at hu; rcases hu with rfl | rfl <;> rfl
        case c3 => unfold maxLen; omega
        case c4 => omega
        case c5 => simp; omega
        intro v' w1 hown' hgrow _
        have HO1 := Lib.hid (show w1.ownsRow w.heap.size 94 2 v' (nz f (k + 1)).length (prow f (nz f (k + 1))) by rw [HS.out.1, HS.out.2]; exact hown')
        have HB3 := Lib.hid ((hB.out.alloc hB.out.size _).grown hgrow (by simp; omega) (fun k hk => (hO.out.lt k hk).1))
        clear hown' hgrow
        go_wp2_with fail
        go_roundw
        case rel => exact ⟨k + 1, by go_num, by omega, HO1, HB3⟩
        case measure => simp [intOf]; omega
    · obtain rfl : k = 8192 := by omega
      go_wp2_with fail
      go_ret
      exact ⟨⟨_, rfl, hO.out⟩, hB.out⟩
end Go.Proofs.Ytajjpaabkdgjbaa
