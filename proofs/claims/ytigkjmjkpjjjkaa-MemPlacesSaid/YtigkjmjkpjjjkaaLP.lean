/- The law MemPlaces, walked. -/
import Derived.Test.YtigkjmjkpjjjkaaLM
import Derived.Test.YtigkjmjkpjjjkaaBF
namespace Go.Proofs.Ytigkjmjkpjjjkaa
open Go.RowKit

set_option maxHeartbeats 1600000 in
theorem refAddress_any (l : List Rg) (f : Nat → Nat) (B g : Nat) (nm : ByteArray) (i_ : Int) (w : World) (h : RefIs w B g l f) (hok : l.all Rg.ok = true) :
    Calls Try.prog 35 #[.pointer (some ⟨g, 0, none⟩), .string nm, .int .i64 i_] w fun e w' => e = .returned (.tuple #[.int .u64 ((addrIn l nm i_).1 : Nat), .bool (addrIn l nm i_).2]) ∧ w = w' := by
  have HO := Lib.hid hok
  obtain ⟨p, c, q, h1, h2, h4, h5, h6, h7, h8, h9, h10, h11, h12, h13⟩ := h
  have HS := Lib.hid h4
  have hm := h4.1
  clear h4 h10 h11 h12 h13 h2 hok
  obtain ⟨z0, hz0⟩ : ∃ z : Nat × Bool, addrIn l nm i_ = z := ⟨_, rfl⟩
  rw [hz0]
  have HZ := Lib.hid hz0
  clear hz0
  go_enter Try.func35, Try.ntmps35
  go_wp2_with fail
  go_loopw [8] (fun i wr => ∃ (ds rs : List Rg), i = .int .i64 ds.length ∧ Hid (l = ds ++ rs) ∧ ds.length + rs.length = l.length ∧ Hid (addrIn l nm i_ = addrIn rs nm i_) ∧ wr = w)
    (fun i _ => l.length - (intOf i).toNat)
  case atStart => exact ⟨[], l, rfl, Lib.hid rfl, by simp, Lib.hid rfl, rfl⟩
  case round =>
    obtain ⟨ds, rs, rfl, hE, hk, hI, rfl⟩ := hrel
    cases rs with
    | nil =>
      simp only [List.length_nil] at hk
      have hge : ¬ ds.length < l.length := by omega
      go_wp2_with fail
      go_ret2
      have h0 := HZ.out
      rw [hI.out] at h0
      subst h0
      exact ⟨rfl, rfl⟩
    | cons r rs =>
      simp only [List.length_cons] at hk
      obtain ⟨b, o, rfl, hb, hA⟩ : ∃ b o, p = some ⟨b, o, none⟩ ∧ b < g ∧ RgAt wr l b o := by
        rcases HS.out.2 with h0 | h0
        · omega
        · exact h0
      rw [hE.out] at hA
      obtain ⟨⟨g0, g1, g2, g3⟩, _⟩ := RgAt.drop ds (r :: rs) b o hA
      have hlt : ds.length < l.length := by omega
      have hro : r.ok = true := List.all_eq_true.1 HO.out r (by rw [hE.out]; simp)
      obtain ⟨_, r0, r8, rb⟩ := Rg.ok_iff.1 hro
      obtain ⟨_, _, rz1, rz2⟩ := (Rg.ok_iff.1 hro).1
      clear hA hro r8
      have nq := name_eq (a := r.name) (b := nm)
      by_cases hin : r.name = nm ∧ 0 ≤ i_ ∧ i_ < r.size
      · obtain ⟨hn, hi0, hi1⟩ := hin
        have HE := Lib.hid (adr_yes HZ.out hI.out ⟨hn, hi0, hi1⟩)
        have d1 : (r.name.toList == nm.toList) = true := by rw [nq]; exact decide_eq_true hn
        have e1 : IntKind.u64.wrap (r.addr + 8 * i_) = r.addr + 8 * i_ := wrap_u _ (by omega) (by omega)
        obtain ⟨m, hm1⟩ : ∃ m : Nat, r.addr + 8 * i_ = (m : Int) := ⟨(r.addr + 8 * i_).toNat, by omega⟩
        clear nq hn
        go_wp2_with fail
        go_ret2
        have h0 := HE.out
        subst h0
        refine ⟨?_, rfl⟩
        rw [show (r.addr + i_ * 8).toNat = m by omega]
        rfl
      · have HN := Lib.hid (adr_no hI.out hin)
        cases d1 : (r.name.toList == nm.toList) with
        | false =>
          clear hin nq
          go_wp2_with fail
          go_roundw
          case rel => exact ⟨ds ++ [r], rs, by rw [List.length_append]; go_num, Lib.hid (by rw [hE.out]; simp), by simp; omega, HN, trivial⟩
          case measure => simp [intOf]; omega
        | true =>
          rw [nq] at d1
          have hn := of_decide_eq_true d1
          have d1 : (r.name.toList == nm.toList) = true := by rw [nq]; exact decide_eq_true hn
          have hd : ¬ (0 ≤ i_ ∧ i_ < r.size) := fun h => hin ⟨hn, h⟩
          clear hin nq hn
          by_cases h0 : 0 ≤ i_
          · have h1 : ¬ i_ < r.size := fun h => hd ⟨h0, h⟩
            clear hd
            go_wp2_with fail
            go_roundw
            case rel => exact ⟨ds ++ [r], rs, by rw [List.length_append]; go_num, Lib.hid (by rw [hE.out]; simp), by simp; omega, HN, trivial⟩
            case measure => simp [intOf]; omega
          · clear hd
            go_wp2_with fail
            go_roundw
            case rel => exact ⟨ds ++ [r], rs, by rw [List.length_append]; go_num, Lib.hid (by rw [hE.out]; simp), by simp; omega, HN, trivial⟩
            case measure => simp [intOf]; omega

set_option maxRecDepth 100000 in
set_option maxHeartbeats 3200000 in
theorem places_long (l : List Rg) (p : Option Addr) (c : Nat) (nm : ByteArray) (i : Int) (w : World) (h : GivenM w l p c) (hl : longB l = true) :
    Calls Try.prog 5 #[.slice p l.length c, .string nm, .int .i64 i] w fun e w' => e = .returned (.bool true) ∧ Below w.heap.size w w' := by
  have HG := Lib.hid h
  clear h
  have HL := Lib.hid (by have := long_any l p c _ w HG.out.rg; rw [hl] at this; exact this : Calls Try.prog 11 #[.slice p l.length c] w fun e w'' => e = .returned (.bool true) ∧ w = w'')
  clear hl
  go_enter Try.func5, Try.ntmps5
  go_wp2_with fail
  refine HL.out.mono ?_
  rintro e w1 ⟨rfl, rfl⟩
  go_wp2_with fail
  refine (known_any _).mono ?_
  rintro e w3 ⟨rfl, hB⟩
  have HB := Lib.hid hB
  clear hB
  go_wp2_with fail
  go_ret
  exact ⟨rfl, HB.out⟩
set_option maxRecDepth 100000 in
set_option maxHeartbeats 3200000 in
theorem places_name (l : List Rg) (p : Option Addr) (c : Nat) (nm : ByteArray) (i : Int) (w : World) (h : GivenM w l p c) (hl : longB l = false) (hs : 900 < nm.size) :
    Calls Try.prog 5 #[.slice p l.length c, .string nm, .int .i64 i] w fun e w' => e = .returned (.bool true) ∧ Below w.heap.size w w' := by
  have HG := Lib.hid h
  clear h
  have HL := Lib.hid (by have := long_any l p c _ w HG.out.rg; rw [hl] at this; exact this : Calls Try.prog 11 #[.slice p l.length c] w fun e w'' => e = .returned (.bool false) ∧ w = w'')
  clear hl
  go_enter Try.func5, Try.ntmps5
  go_wp2_with fail
  refine HL.out.mono ?_
  rintro e w1 ⟨rfl, rfl⟩
  go_wp2_with fail
  refine (known_any _).mono ?_
  rintro e w3 ⟨rfl, hB⟩
  have HB := Lib.hid hB
  clear hB
  go_wp2_with fail
  go_ret
  exact ⟨rfl, HB.out⟩
set_option maxRecDepth 100000 in
set_option maxHeartbeats 3200000 in
theorem places_bad (l : List Rg) (p : Option Addr) (c : Nat) (nm : ByteArray) (i : Int) (w : World) (h : GivenM w l p c) (hl : longB l = false) (hs : ¬ 900 < nm.size) (hm : mayB l = false) :
    Calls Try.prog 5 #[.slice p l.length c, .string nm, .int .i64 i] w fun e w' => e = .returned (.bool true) ∧ Below w.heap.size w w' := by
  have HG := Lib.hid h
  clear h
  have HL := Lib.hid (by have := long_any l p c _ w HG.out.rg; rw [hl] at this; exact this : Calls Try.prog 11 #[.slice p l.length c] w fun e w'' => e = .returned (.bool false) ∧ w = w'')
  have HM := Lib.hid (by have := refMay_any l p c _ w HG.out.rg (Nat.le_refl _); rw [hm] at this; exact this : Calls Try.prog 15 #[.slice p l.length c] w fun e w'' => e = .returned (.bool false) ∧ Below w.heap.size w w'')
  clear hl hm
  go_enter Try.func5, Try.ntmps5
  go_wp2_with fail
  refine HL.out.mono ?_
  rintro e w1 ⟨rfl, rfl⟩
  go_wp2_with fail
  refine HM.out.mono ?_
  rintro e w2 ⟨rfl, hB⟩
  have HB2 := Lib.hid hB
  clear hB
  go_wp2_with fail
  refine (known_any _).mono ?_
  rintro e w3 ⟨rfl, hB⟩
  have HB := Lib.hid (HB2.out.trans (hB.mono HB2.out.size))
  clear hB
  go_wp2_with fail
  go_ret
  exact ⟨rfl, HB.out⟩
set_option maxRecDepth 100000 in
set_option maxHeartbeats 3200000 in
theorem places_ok (l : List Rg) (p : Option Addr) (c : Nat) (nm : ByteArray) (i : Int) (w : World) (h : GivenM w l p c) (hl : longB l = false) (hs : ¬ 900 < nm.size) (hm : mayB l = true) :
    Calls Try.prog 5 #[.slice p l.length c, .string nm, .int .i64 i] w fun e w' => e = .returned (.bool true) ∧ Below w.heap.size w w' := by
  have HG := Lib.hid h
  clear h
  have HL := Lib.hid (by have := long_any l p c _ w HG.out.rg; rw [hl] at this; exact this : Calls Try.prog 11 #[.slice p l.length c] w fun e w'' => e = .returned (.bool false) ∧ w = w'')
  have HM := Lib.hid (by have := refMay_any l p c _ w HG.out.rg (Nat.le_refl _); rw [hm] at this; exact this : Calls Try.prog 15 #[.slice p l.length c] w fun e w'' => e = .returned (.bool true) ∧ Below w.heap.size w w'')
  have hok := Lib.hid (ok_of hm)
  have HN : Hid (∀ w', Below w.heap.size w w' → Calls Try.prog 13 #[.slice p l.length c] w' fun e w'' => (∃ g, e = .returned (.tuple #[.pointer (some ⟨g, 0, none⟩), .int .i64 0]) ∧ MemIs w'' w'.heap.size g l (fun _ => 0)) ∧ Below w'.heap.size w' w'') := Lib.hid fun w' hB =>
    (new_any l p c _ w' (HG.out.later hB).rg (Nat.le_refl _) HG.out.le HG.out.cap HG.out.nil).mono fun e w'' h => ⟨h.1.2 hm, h.2⟩
  have hlen : l.length ≤ 1000000 := by simp [mayB] at hm; omega
  have HR : Hid (∀ w', Below w.heap.size w w' → Calls Try.prog 17 #[.slice p l.length c] w' fun e w'' => (∃ g, e = .returned (.pointer (some ⟨g, 0, none⟩)) ∧ RefIs w'' w'.heap.size g l (fun _ => 0)) ∧ Below w'.heap.size w' w'') := Lib.hid fun w' hB =>
    refNew_all l p c _ w' (HG.out.later hB).rg (Nat.le_refl _) hlen HG.out.nil
  have HA : Hid (∀ B g w', MemIs w' B g l (fun _ => 0) → Calls Try.prog 34 #[.pointer (some ⟨g, 0, none⟩), .string nm, .int .i64 i] w' fun e w'' => e = .returned (.tuple #[.int .u64 ((addrIn l nm i).1 : Nat), .bool (addrIn l nm i).2]) ∧ Below w'.heap.size w' w'') := Lib.hid fun B g w' hM => address_any l _ B g nm i w' hM hok.out
  have HC : Hid (∀ B g w', RefIs w' B g l (fun _ => 0) → Calls Try.prog 35 #[.pointer (some ⟨g, 0, none⟩), .string nm, .int .i64 i] w' fun e w'' => e = .returned (.tuple #[.int .u64 ((addrIn l nm i).1 : Nat), .bool (addrIn l nm i).2]) ∧ w' = w'') := Lib.hid fun B g w' hM => refAddress_any l _ B g nm i w' hM hok.out
  generalize addrIn l nm i = z at HA HC
  clear hl hm
  go_enter Try.func5, Try.ntmps5
  go_wp2_with fail
  refine HL.out.mono ?_
  rintro e w1 ⟨rfl, rfl⟩
  go_wp2_with fail
  refine HM.out.mono ?_
  rintro e w2 ⟨rfl, hB⟩
  have HB2 := Lib.hid hB
  have H3 := Lib.hid (HN.out _ hB)
  clear hB
  go_wp2_with fail
  refine H3.out.mono ?_
  rintro e w3 ⟨⟨g, rfl, hM⟩, hB⟩
  have HB3 := Lib.hid (HB2.out.trans (hB.mono HB2.out.size))
  have H4 := Lib.hid (HA.out _ _ _ hM)
  clear hB H3 HB2 hM
  go_wp2_with fail
  refine (num_any 0 _).mono ?_
  rintro e w' ⟨rfl, rfl⟩
  go_wp2_with fail
  refine H4.out.mono ?_
  rintro e w4 ⟨rfl, hB⟩
  have HB4 := Lib.hid (HB3.out.trans (hB.mono HB3.out.size))
  have H5 := Lib.hid (HR.out _ HB4.out)
  clear hB H4 HB3
  go_wp2_with fail
  refine H5.out.mono ?_
  rintro e w5 ⟨⟨g2, rfl, hM⟩, hB⟩
  have HB5 := Lib.hid (HB4.out.trans (hB.mono HB4.out.size))
  have H6 := Lib.hid (HC.out _ _ _ hM)
  clear hB H5 HB4 hM
  go_wp2_with fail
  refine H6.out.mono ?_
  rintro e w6 ⟨rfl, rfl⟩
  go_wp2_with fail
  refine (known_any _).mono ?_
  rintro e w7 ⟨rfl, hB⟩
  have HB7 := Lib.hid (HB5.out.trans (hB.mono HB5.out.size))
  clear hB
  go_wp2_with fail
  go_ret
  exact ⟨rfl, HB7.out⟩
theorem places_law (l : List Rg) (p : Option Addr) (c : Nat) (nm : ByteArray) (i : Int) (w : World) (h : GivenM w l p c) :
    Calls Try.prog 5 #[.slice p l.length c, .string nm, .int .i64 i] w fun e w' => e = .returned (.bool true) ∧ Below w.heap.size w w' := by
  cases hl : longB l with
  | true => exact places_long l p c nm i w h hl
  | false =>
    by_cases hs : 900 < nm.size
    · exact places_name l p c nm i w h hl hs
    · cases hm : mayB l with
      | false => exact places_bad l p c nm i w h hl hs hm
      | true => exact places_ok l p c nm i w h hl hs hm
end Go.Proofs.Ytigkjmjkpjjjkaa
