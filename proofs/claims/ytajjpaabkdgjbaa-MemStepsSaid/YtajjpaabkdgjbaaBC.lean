/- Address. -/
import Derived.Test.YtajjpaabkdgjbaaB9
import Derived.Test.YtajjpaabkdgjbaaB3
namespace Go.Proofs.Ytajjpaabkdgjbaa
open Go.RowKit

def addrIn : List Rg → ByteArray → Int → Nat × Bool
  | [], _, _ => (0, false)
  | r :: rs, nm, i => if r.name = nm ∧ 0 ≤ i ∧ i < r.size then ((r.addr + i * 8).toNat, true) else addrIn rs nm i

theorem adr_yes {l rs : List Rg} {r : Rg} {nm : ByteArray} {i : Int} {z : Nat × Bool} (h : addrIn l nm i = z) (hI : addrIn l nm i = addrIn (r :: rs) nm i) (h1 : r.name = nm ∧ 0 ≤ i ∧ i < r.size) : z = ((r.addr + i * 8).toNat, true) := by
  rw [← h, hI, addrIn, if_pos h1]
theorem adr_no {l rs : List Rg} {r : Rg} {nm : ByteArray} {i : Int} (hI : addrIn l nm i = addrIn (r :: rs) nm i) (h1 : ¬ (r.name = nm ∧ 0 ≤ i ∧ i < r.size)) : addrIn l nm i = addrIn rs nm i := by
  rw [hI, addrIn, if_neg h1]

set_option maxHeartbeats 1600000 in
theorem address_any (l : List Rg) (f : Nat → Nat) (B g : Nat) (nm : ByteArray) (i_ : Int) (w : World) (h : MemIs w B g l f) (hok : l.all Rg.ok = true) :
    Calls Try.prog 30 #[.pointer (some ⟨g, 0, none⟩), .string nm, .int .i64 i_] w fun e w' => e = .returned (.tuple #[.int .u64 ((addrIn l nm i_).1 : Nat), .bool (addrIn l nm i_).2]) ∧ Below w.heap.size w w' := by
  have HI := Lib.hid h.isn
  have HO := Lib.hid hok
  obtain ⟨p, c, q, h1, h2, h3, h4, h5, h6, h7, h8, h9, h10, h11, h12, h13⟩ := h
  have HS := Lib.hid h4
  have hm := h4.1
  clear h4 h10 h11 h12 h13 h2 h3 hok
  obtain ⟨z0, hz0⟩ : ∃ z : Nat × Bool, addrIn l nm i_ = z := ⟨_, rfl⟩
  rw [hz0]
  have HZ := Lib.hid hz0
  clear hz0
  go_enter Try.func30, Try.ntmps30
  go_wp2_with (first | (go_at_call 43; (with_reducible refine HI.out.mono ?_); rintro e w' ⟨rfl, rfl⟩))
  clear h1
  go_loopw [17] (fun i wr => ∃ (ds rs : List Rg), i = .int .i64 ds.length ∧ Hid (l = ds ++ rs) ∧ ds.length + rs.length = l.length ∧ Hid (addrIn l nm i_ = addrIn rs nm i_) ∧ Hid (Below w.heap.size w wr))
    (fun i _ => l.length - (intOf i).toNat)
  case atStart => exact ⟨[], l, rfl, Lib.hid rfl, by simp, Lib.hid rfl, Lib.hid (Below.refl _ _)⟩
  case round =>
    obtain ⟨ds, rs, rfl, hE, hk, hI, hB⟩ := hrel
    cases rs with
    | nil =>
      simp only [List.length_nil] at hk
      have hge : ¬ ds.length < l.length := by omega
      go_wp2_with fail
      go_ret2
      have h0 := HZ.out
      rw [hI.out] at h0
      subst h0
      exact ⟨rfl, hB.out⟩
    | cons r rs =>
      simp only [List.length_cons] at hk
      obtain ⟨b, o, rfl, hb, hA⟩ : ∃ b o, p = some ⟨b, o, none⟩ ∧ b < g ∧ RgAt w l b o := by
        rcases HS.out.2 with h0 | h0
        · omega
        · exact h0
      rw [hE.out] at hA
      obtain ⟨⟨f0, f1, f2, f3⟩, _⟩ := RgAt.drop ds (r :: rs) b o hA
      have g0 := (hB.out.cell (show b < w.heap.size by omega)).trans f0
      have g1 := (hB.out.cell (show b < w.heap.size by omega)).trans f1
      have g2 := (hB.out.cell (show b < w.heap.size by omega)).trans f2
      have g3 := (hB.out.cell (show b < w.heap.size by omega)).trans f3
      have hlt : ds.length < l.length := by omega
      have hwz : w.heap.size ≤ wr.heap.size := hB.out.size
      have hro : r.ok = true := List.all_eq_true.1 HO.out r (by rw [hE.out]; simp)
      obtain ⟨_, r0, r8, rb⟩ := Rg.ok_iff.1 hro
      obtain ⟨_, _, rz1, rz2⟩ := (Rg.ok_iff.1 hro).1
      clear hA f0 f1 f2 f3 hro r8
      have nq := name_eq (a := r.name) (b := nm)
      by_cases hin : r.name = nm ∧ 0 ≤ i_ ∧ i_ < r.size
      · obtain ⟨hn, hi0, hi1⟩ := hin
        have HE := Lib.hid (adr_yes HZ.out hI.out ⟨hn, hi0, hi1⟩)
        have d1 : (r.name.toList == nm.toList) = true := by rw [nq]; exact decide_eq_true hn
        have e1 : IntKind.u64.wrap (r.addr + i_ * 8) = r.addr + i_ * 8 := wrap_u _ (by omega) (by omega)
        obtain ⟨m, hm1⟩ : ∃ m : Nat, r.addr + i_ * 8 = (m : Int) := ⟨(r.addr + i_ * 8).toNat, by omega⟩
        have HB := Lib.hid (hB.out.alloc hwz (.cells #[.string r.name, .int .i64 r.addr, .int .i64 r.size, .bool r.sec] 66))
        clear nq hn
        go_wp2_with fail
        go_ret2
        have h0 := HE.out
        subst h0
        refine ⟨?_, HB.out⟩
        rw [show (r.addr + i_ * 8).toNat = m by omega]
        rfl
      · have HN := Lib.hid (adr_no hI.out hin)
        have hwr : Hid (Below w.heap.size w (wr.alloc (.cells #[.string r.name, .int .i64 r.addr, .int .i64 r.size, .bool r.sec] 66))) := Lib.hid (hB.out.alloc hwz _)
        cases d1 : (r.name.toList == nm.toList) with
        | false =>
          clear hin nq
          go_wp2_with fail
          go_roundw
          case rel => exact ⟨ds ++ [r], rs, by rw [List.length_append]; go_num, Lib.hid (by rw [hE.out]; simp), by simp; omega, HN, hwr⟩
          case measure => simp [intOf]; omega
        | true =>
          rw [nq] at d1
          have hn := of_decide_eq_true d1
          have d1 : (r.name.toList == nm.toList) = true := by rw [nq]; exact decide_eq_true hn
          have hd : ¬ (0 ≤ i_ ∧ i_ < r.size) := fun h => hin ⟨hn, h⟩
          clear hin nq hn
          by_cases h0 : 0 ≤ i_
          · have h1 : ¬ i_ < r.size := fun h => hd ⟨h0, h⟩
            clear hd
            go_wp2_with fail
            go_roundw
            case rel => exact ⟨ds ++ [r], rs, by rw [List.length_append]; go_num, Lib.hid (by rw [hE.out]; simp), by simp; omega, HN, hwr⟩
            case measure => simp [intOf]; omega
          · clear hd
            go_wp2_with fail
            go_roundw
            case rel => exact ⟨ds ++ [r], rs, by rw [List.length_append]; go_num, Lib.hid (by rw [hE.out]; simp), by simp; omega, HN, hwr⟩
            case measure => simp [intOf]; omega
end Go.Proofs.Ytajjpaabkdgjbaa
