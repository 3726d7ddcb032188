/- The law's blank: a gap has no tokens. -/
import Derived.Test.YtgffiggnmklcoaaGreatDoorZ1
namespace Go.Proofs.YtgffiggnmklcoaaGreatDoor
open Go.RowKit

theorem gap_blank {l : List UInt8} {k : Nat} (hk : k < l.length) (h : Gap (l.drop k)) (h35 : l[k].toNat ≠ 35) : isBlank l[k] = true ∧ Gap (l.drop (k + 1)) := by
  rw [List.drop_eq_getElem_cons hk] at h
  generalize hc : l[k] = c at h h35 ⊢
  generalize l.drop (k + 1) = r at h ⊢
  cases h with
  | blank _ _ hb hr => exact ⟨hb, hr⟩
  | note _ _ hn _ => exact absurd hn h35
theorem dropWhile_all {f : UInt8 → Bool} {x y : List UInt8} (h : x.all f = true) : (x ++ y).dropWhile f = y.dropWhile f := by
  induction x with
  | nil => rfl
  | cons c r ih =>
    rw [List.all_cons, Bool.and_eq_true] at h
    rw [List.cons_append, List.dropWhile_cons, if_pos h.1]; exact ih h.2
theorem gap_note {l : List UInt8} {k j : Nat} (_hk : k < l.length) (h : Gap (l.drop k)) (hj : k ≤ j) (ha : ((l.drop k).take (j - k)).all isNote = true) (he : (h : j < l.length) → l[j].toNat = 10) : Gap (l.drop (j + 1)) := by
  by_cases hlt : j < l.length
  · have h10 := he hlt
    have e1 : l.drop k = (l.drop k).take (j - k) ++ l.drop j := by
      have := (List.take_append_drop (j - k) (l.drop k)).symm
      rwa [List.drop_drop, show k + (j - k) = j by omega] at this
    have hD : Gap ((l.drop k).dropWhile isNote) := h.dropWhile
    rw [e1, dropWhile_all ha, List.drop_eq_getElem_cons hlt, List.dropWhile_cons, if_neg (by simp [isNote, h10])] at hD
    generalize hc : l[j] = c at hD h10
    generalize l.drop (j + 1) = r at hD ⊢
    cases hD with
    | blank _ _ _ hr => exact hr
    | note _ _ hn _ => omega
  · rw [List.drop_eq_nil_of_le (by omega)]; exact .nil

set_option maxRecDepth 100000 in
set_option maxHeartbeats 1600000 in
theorem blank_any (s : ByteArray) (w : World) (hs : s.size ≤ 281474976710656) (hg : Gap s.data.toList) :
    Calls Tryz.prog 30 #[.string s] w fun e w' => e = .returned (.bool true) ∧ w' = w := by
  have HG0 := Lib.hid hg
  clear hg
  go_enter Tryz.func30, Tryz.ntmps30
  go_wp2_with fail
  go_loopg [3] (s.size + 1) (fun g i wr => ∃ k : Nat, i = .int .i64 k ∧ k + g = s.size + 1 ∧ Hid (Gap (s.data.toList.drop k)) ∧ wr = w)
  case atStart => exact ⟨0, rfl, by omega, HG0, rfl⟩
  case round =>
    obtain ⟨k, rfl, hkg, hG, rfl⟩ := hrel
    by_cases hlt : k < s.size
    · have hltl : k < s.data.toList.length := by rw [← size_len]; exact hlt
      obtain ⟨x, hx⟩ : ∃ x, s[k]'hlt = x := ⟨_, rfl⟩
      have hxl : s.data.toList[k]'hltl = x := hx
      have hxb : x.toNat < 256 := x.toNat_lt
      obtain ⟨g', rfl⟩ : ∃ g', gk = g' + 1 := ⟨gk - 1, by omega⟩
      by_cases h35 : x.toNat = 35
      · have e35 : ((x.toNat : Int) == 35) = true := by rw [h35]; rfl
        have HN := Lib.hid (fun j (hj : k ≤ j) ha he => gap_note (j := j) hltl hG.out hj ha he)
        clear hltl hxl
        go_wp2_with fail
        go_loopg [3] (s.size - k) (fun g i v => ∃ j : Nat, i = .int .i64 j ∧ j + g = s.size ∧ Hid (k ≤ j ∧ ((s.data.toList.drop k).take (j - k)).all isNote = true) ∧ v = wr)
        case atStart => exact ⟨k, rfl, by omega, Lib.hid ⟨Nat.le_refl _, by rw [Nat.sub_self]; rfl⟩, rfl⟩
        case round =>
          obtain ⟨j, rfl, hjg, hA, rfl⟩ := hrel
          have hkj := hA.out.1
          by_cases hlj : j < s.size
          · have hljl : j < s.data.toList.length := by rw [← size_len]; exact hlj
            obtain ⟨y, hy⟩ : ∃ y, s[j]'hlj = y := ⟨_, rfl⟩
            have hyl : s.data.toList[j]'hljl = y := hy
            have hyb : y.toNat < 256 := y.toNat_lt
            by_cases h10 : y.toNat = 10
            · have e10 : ((y.toNat : Int) != 10) = false := by rw [h10]; rfl
              have HG' := Lib.hid (HN.out j hA.out.1 hA.out.2 (fun _ => by rw [hyl]; exact h10))
              clear hyl hljl hA
              go_wp2_with fail
              go_roundg (s.size - j)
              case rel => exact ⟨j + 1, by go_num, by omega, HG', rfl⟩
              case measure => omega
            · have e10 : ((y.toNat : Int) != 10) = true := by simp; omega
              have hS : Hid (k ≤ j + 1 ∧ ((s.data.toList.drop k).take (j + 1 - k)).all isNote = true) := Lib.hid (by
                refine ⟨Nat.le_succ_of_le hA.out.1, ?_⟩
                have h1 := hA.out.1
                have h2 := hA.out.2
                have hl : j - k < (s.data.toList.drop k).length := by rw [List.length_drop]; omega
                have hn : isNote (s.data.toList.drop k)[j - k] = true := by
                  have e : (s.data.toList.drop k)[j - k] = y := by rw [List.getElem_drop, ← hyl]; congr 1; omega
                  rw [e]; simp [isNote, h10]
                have := run_snoc h2 hl hn
                rwa [show j - k + 1 = j + 1 - k by omega] at this)
              clear hyl hljl hA
              obtain ⟨g2, rfl⟩ : ∃ g2, gk = g2 + 1 := ⟨gk - 1, by omega⟩
              go_wp2_with fail
              go_roundg g2
              case rel => exact ⟨j + 1, by go_num, by omega, hS, rfl⟩
              case measure => omega
          · obtain rfl : j = s.size := by omega
            have HG' := Lib.hid (HN.out s.size hA.out.1 hA.out.2 (fun h => absurd h (by rw [← size_len]; omega)))
            clear hA
            go_wp2_with fail
            go_roundg 0
            case rel => exact ⟨s.size + 1, by go_num, by omega, HG', rfl⟩
            case measure => omega
      · have e35 : ((x.toNat : Int) == 35) = false := by simp; omega
        obtain ⟨hb, hG'⟩ := gap_blank hltl hG.out (by rw [hxl]; exact h35)
        rw [hxl] at hb
        have HG' := Lib.hid hG'
        clear hG' hltl hxl
        simp only [isBlank, Bool.or_eq_true, decide_eq_true_eq] at hb
        by_cases h32 : x.toNat = 32
        · have e32 : ((x.toNat : Int) != 32) = false := by rw [h32]; rfl
          clear hb
          go_wp2_with fail
          go_roundg g'
          case rel => exact ⟨k + 1, by go_num, by omega, HG', rfl⟩
          case measure => omega
        · have e32 : ((x.toNat : Int) != 32) = true := by simp; omega
          by_cases h9 : x.toNat = 9
          · have e9 : ((x.toNat : Int) != 9) = false := by rw [h9]; rfl
            clear hb
            go_wp2_with fail
            go_roundg g'
            case rel => exact ⟨k + 1, by go_num, by omega, HG', rfl⟩
            case measure => omega
          · have e9 : ((x.toNat : Int) != 9) = true := by simp; omega
            by_cases h10 : x.toNat = 10
            · have e10 : ((x.toNat : Int) != 10) = false := by rw [h10]; rfl
              clear hb
              go_wp2_with fail
              go_roundg g'
              case rel => exact ⟨k + 1, by go_num, by omega, HG', rfl⟩
              case measure => omega
            · have e10 : ((x.toNat : Int) != 10) = true := by simp; omega
              have h13 : x.toNat = 13 := by omega
              have e13 : ((x.toNat : Int) != 13) = false := by rw [h13]; rfl
              clear hb
              go_wp2_with fail
              go_roundg g'
              case rel => exact ⟨k + 1, by go_num, by omega, HG', rfl⟩
              case measure => omega
    · have hk : s.size ≤ k := by omega
      go_wp2_with fail
      go_ret
      exact ⟨rfl, rfl⟩
end Go.Proofs.YtgffiggnmklcoaaGreatDoor
