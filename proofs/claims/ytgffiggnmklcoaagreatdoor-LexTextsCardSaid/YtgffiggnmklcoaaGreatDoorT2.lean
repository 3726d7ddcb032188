/- The document's way over blanks and notes. -/
import Derived.Test.YtgffiggnmklcoaaGreatDoorT1
namespace Go.Proofs.YtgffiggnmklcoaaGreatDoor
open Go.RowKit

theorem note_end {l : List UInt8} {k j f L la : Nat} {ds : List (Nat × Tk)} (h : PlainSt l k f L la ds) (hk : k < l.length) (h35 : l[k].toNat = 35) (hj : k ≤ j) (hjl : j ≤ l.length) (ha : ((l.drop k).take (j - k)).all isNote = true) (he : (h : j < l.length) → l[j].toNat = 10) : k < j ∧ ∃ f', PlainSt l j f' L la ds := by
  have h1 : runLen isNote (l.drop k) = j - k := run_at ha (by rw [List.length_drop]; omega) (fun h' => by
    rw [List.length_drop] at h'
    have e : (l.drop k)[j - k] = l[j] := by rw [List.getElem_drop]; congr 1; omega
    rw [e]; simp [isNote, he (by omega)])
  have h2 : k ≠ j := by
    rintro rfl
    have := he hk
    omega
  obtain ⟨f', h3⟩ := h.note hk h35
  rw [h1, show k + (j - k) = j by omega] at h3
  exact ⟨by omega, f', h3⟩
def SkipIs (l : List UInt8) (a : Nat) (ds : List (Nat × Tk)) (e : Ending) : Prop :=
  ∃ a' f' L' la' : Nat, e = .returned (.int .i64 a') ∧ a ≤ a' ∧ PlainSt l a' f' L' la' ds ∧ ((h : a' < l.length) → isBlank l[a'] = false ∧ l[a'].toNat ≠ 35)

set_option maxRecDepth 100000 in
set_option maxHeartbeats 1600000 in
theorem rskip_any (s : ByteArray) (a f L la : Nat) (ds : List (Nat × Tk)) (w : World) (hs : s.size ≤ 281474976710656) (h : PlainSt s.data.toList a f L la ds) :
    Calls Tryz.prog 36 #[.string s, .int .i64 a] w fun e w' => SkipIs s.data.toList a ds e ∧ w' = w := by
  have has : a ≤ s.size := by rw [size_len]; exact h.le
  have HP0 := Lib.hid (And.intro (Nat.le_refl a) h)
  clear h
  go_enter Tryz.func36, Tryz.ntmps36
  go_wp2_with fail
  go_loopg [1] (s.size + 1 - a) (fun g i wr => ∃ k f L la : Nat, i = .int .i64 k ∧ k + g = s.size + 1 ∧ Hid (a ≤ k ∧ PlainSt s.data.toList k f L la ds) ∧ wr = w)
  case atStart => exact ⟨a, f, L, la, rfl, by omega, HP0, rfl⟩
  case round =>
    obtain ⟨k, f, L, la, rfl, hkg, hP, rfl⟩ := hrel
    by_cases hlt : k < s.size
    · have hltl : k < s.data.toList.length := by rw [← size_len]; exact hlt
      obtain ⟨x, hx⟩ : ∃ x, s[k]'hlt = x := ⟨_, rfl⟩
      have hxl : s.data.toList[k]'hltl = x := hx
      have hxb : x.toNat < 256 := x.toNat_lt
      obtain ⟨g', rfl⟩ : ∃ g', gk = g' + 1 := ⟨gk - 1, by omega⟩
      have HNl := Lib.hid (fun h10 => hP.out.2.newline hltl h10)
      have HBl := Lib.hid (fun hb h10 => hP.out.2.blank hltl hb h10)
      have HNo := Lib.hid (fun j h35 hj hjl ha he => note_end (j := j) hP.out.2 hltl h35 hj hjl ha he)
      rw [hxl] at HNl HBl HNo
      have HDone : Hid (isBlank x = false → x.toNat ≠ 35 → SkipIs s.data.toList a ds (.returned (.int .i64 k))) := Lib.hid (fun h1 h2 => ⟨k, f, L, la, rfl, hP.out.1, hP.out.2, fun _ => by rw [hxl]; exact ⟨h1, h2⟩⟩)
      have hak := hP.out.1
      clear hxl hP
      by_cases h32 : x.toNat = 32
      · have e32 : ((x.toNat : Int) == 32) = true := by rw [h32]; rfl
        obtain ⟨f', hN⟩ := HBl.out (by simp [isBlank, h32]) (by omega)
        have HN := Lib.hid (And.intro (Nat.le_succ_of_le hak) hN)
        clear hN HNl HBl HNo HDone hltl
        go_wp2_with fail
        go_roundg g'
        case rel => exact ⟨k + 1, f', L, la, by go_num, by omega, HN, rfl⟩
        case measure => omega
      have e32 : ((x.toNat : Int) == 32) = false := by simp; omega
      by_cases h9 : x.toNat = 9
      · have e9 : ((x.toNat : Int) == 9) = true := by rw [h9]; rfl
        obtain ⟨f', hN⟩ := HBl.out (by simp [isBlank, h9]) (by omega)
        have HN := Lib.hid (And.intro (Nat.le_succ_of_le hak) hN)
        clear hN HNl HBl HNo HDone hltl
        go_wp2_with fail
        go_roundg g'
        case rel => exact ⟨k + 1, f', L, la, by go_num, by omega, HN, rfl⟩
        case measure => omega
      have e9 : ((x.toNat : Int) == 9) = false := by simp; omega
      by_cases h10 : x.toNat = 10
      · have e10 : ((x.toNat : Int) == 10) = true := by rw [h10]; rfl
        obtain ⟨f', hN⟩ := HNl.out h10
        have HN := Lib.hid (And.intro (Nat.le_succ_of_le hak) hN)
        clear hN HNl HBl HNo HDone hltl
        go_wp2_with fail
        go_roundg g'
        case rel => exact ⟨k + 1, f', L + 1, k + 1, by go_num, by omega, HN, rfl⟩
        case measure => omega
      have e10 : ((x.toNat : Int) == 10) = false := by simp; omega
      by_cases h13 : x.toNat = 13
      · have e13 : ((x.toNat : Int) == 13) = true := by rw [h13]; rfl
        obtain ⟨f', hN⟩ := HBl.out (by simp [isBlank, h13]) (by omega)
        have HN := Lib.hid (And.intro (Nat.le_succ_of_le hak) hN)
        clear hN HNl HBl HNo HDone hltl
        go_wp2_with fail
        go_roundg g'
        case rel => exact ⟨k + 1, f', L, la, by go_num, by omega, HN, rfl⟩
        case measure => omega
      have e13 : ((x.toNat : Int) == 13) = false := by simp; omega
      by_cases h35 : x.toNat = 35
      · have e35 : ((x.toNat : Int) == 35) = true := by rw [h35]; rfl
        have HN := Lib.hid (fun j => HNo.out j h35)
        clear HNl HBl HNo HDone hltl
        go_wp2_with fail
        go_loopg [1] (s.size - k) (fun g i v => ∃ j : Nat, i = .int .i64 j ∧ j + g = s.size ∧ Hid (k ≤ j ∧ ((s.data.toList.drop k).take (j - k)).all isNote = true) ∧ v = wr)
        case atStart => exact ⟨k, rfl, by omega, Lib.hid ⟨Nat.le_refl _, by rw [Nat.sub_self]; rfl⟩, rfl⟩
        case round =>
          obtain ⟨j, rfl, hjg, hA, rfl⟩ := hrel
          have hkj := hA.out.1
          by_cases hlj : j < s.size
          · have hljl : j < s.data.toList.length := by rw [← size_len]; exact hlj
            obtain ⟨y, hy⟩ : ∃ y, s[j]'hlj = y := ⟨_, rfl⟩
            have hyl : s.data.toList[j]'hljl = y := hy
            have hyb : y.toNat < 256 := y.toNat_lt
            by_cases h10 : y.toNat = 10
            · have e10 : ((y.toNat : Int) != 10) = false := by rw [h10]; rfl
              obtain ⟨hkj', f', hN⟩ := HN.out j hA.out.1 (by rw [← size_len]; omega) hA.out.2 (fun _ => by rw [hyl]; exact h10)
              have HG' := Lib.hid (And.intro (Nat.le_trans hak (Nat.le_of_lt hkj')) hN)
              clear hyl hljl hA hN HN
              go_wp2_with fail
              go_roundg (s.size + 1 - j)
              case rel => exact ⟨j, f', L, la, rfl, by omega, HG', rfl⟩
              case measure => omega
            · have e10 : ((y.toNat : Int) != 10) = true := by simp; omega
              have hS : Hid (k ≤ j + 1 ∧ ((s.data.toList.drop k).take (j + 1 - k)).all isNote = true) := Lib.hid (by
                refine ⟨Nat.le_succ_of_le hA.out.1, ?_⟩
                have h1 := hA.out.1
                have h2 := hA.out.2
                have hl : j - k < (s.data.toList.drop k).length := by rw [List.length_drop]; omega
                have hn : isNote (s.data.toList.drop k)[j - k] = true := by
                  have e : (s.data.toList.drop k)[j - k] = y := by rw [List.getElem_drop, ← hyl]; congr 1; omega
                  rw [e]; simp [isNote, h10]
                have := run_snoc h2 hl hn
                rwa [show j - k + 1 = j + 1 - k by omega] at this)
              clear hyl hljl hA
              obtain ⟨g2, rfl⟩ : ∃ g2, gk = g2 + 1 := ⟨gk - 1, by omega⟩
              go_wp2_with fail
              go_roundg g2
              case rel => exact ⟨j + 1, by go_num, by omega, hS, rfl⟩
              case measure => omega
          · obtain rfl : j = s.size := by omega
            obtain ⟨hkj', f', hN⟩ := HN.out s.size hA.out.1 (by rw [← size_len]; exact Nat.le_refl _) hA.out.2 (fun h => absurd h (by rw [← size_len]; omega))
            have HG' := Lib.hid (And.intro (Nat.le_trans hak (Nat.le_of_lt hkj')) hN)
            clear hA hN HN
            go_wp2_with fail
            go_roundg 1
            case rel => exact ⟨s.size, f', L, la, rfl, by omega, HG', rfl⟩
            case measure => omega
      have e35 : ((x.toNat : Int) == 35) = false := by simp; omega
      have HD := Lib.hid (HDone.out (by simp [isBlank]; omega) h35)
      clear HNl HBl HNo HDone hltl
      go_wp2_with fail
      go_ret
      exact ⟨HD.out, rfl⟩
    · obtain rfl : k = s.size := by have := hP.out.2.le; rw [← size_len] at this; omega
      have HD := Lib.hid (show SkipIs s.data.toList a ds (.returned (.int .i64 s.size)) from ⟨s.size, f, L, la, rfl, hP.out.1, hP.out.2, fun h => absurd h (by rw [← size_len]; omega)⟩)
      go_wp2_with fail
      go_ret
      exact ⟨HD.out, rfl⟩
end Go.Proofs.YtgffiggnmklcoaaGreatDoor
