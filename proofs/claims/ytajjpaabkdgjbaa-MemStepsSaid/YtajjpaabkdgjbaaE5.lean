/- play: a memory, and the document's, step by step. -/
import Derived.Test.YtajjpaabkdgjbaaE4
import Derived.Test.YtajjpaabkdgjbaaD8
import Derived.Test.YtajjpaabkdgjbaaD6
import Derived.Test.YtajjpaabkdgjbaaDC
namespace Go.Proofs.Ytajjpaabkdgjbaa
open Go.RowKit

/-- what a play leaves -/
def PlayPost (l : List Rg) (w : World) (e : Ending) (w' : World) : Prop :=
  ∃ (B1 g1 B2 g2 : Nat) (f bt : Nat → Nat), e = .returned (.tuple #[.pointer (some ⟨g1, 0, none⟩), .pointer (some ⟨g2, 0, none⟩), .bool true]) ∧ MemIs w' B1 g1 l f ∧ RefIs w' B2 g2 l bt ∧ RelWB f bt ∧ (g1 < B2 ∨ g2 < B1) ∧ w.heap.size ≤ B1 ∧ w.heap.size ≤ B2 ∧ Below w.heap.size w w'
theorem rel_0 : RelWB (fun _ => 0) (fun _ => 0) := fun a _ => by simp [byteOf]
set_option maxRecDepth 100000 in
set_option maxHeartbeats 3200000 in
theorem play_any (l : List Rg) (xss : List (List Nat)) (ss : List Stp) (p p2 p3 : Option Addr) (c c2 c3 N : Nat) (w : World) (h : RgIn w N l p) (hx : WsIn w N xss p2) (hs : StpIn w N ss p3) (hN : N ≤ w.heap.size) (hc : l.length ≤ c) (hcm : c ≤ 9223372036854775807) (hp : p = none → c = 0) (hm : mayB l = true) (hf : fitsB l xss = true) :
    Calls Try.prog 12 #[.slice p l.length c, .slice p2 xss.length c2, .slice p3 ss.length c3] w (PlayPost l w) := by
  have hok : l.all Rg.ok = true := by simp only [mayB, Bool.and_eq_true] at hm; exact hm.2.1
  have hl : l.length ≤ 16 := by simp only [mayB, Bool.and_eq_true, decide_eq_true_eq] at hm; exact hm.1
  have HO := Lib.hid (of_yes l xss p p2 c c2 N w h hx hN hc hcm hp hm hf)
  have HN := Lib.hid (fun (w1 : World) (hb : Below w.heap.size w w1) => refNew_all l p c N w1 (h.later (hb.mono hN) (Nat.le_refl _)) (Nat.le_trans hN hb.size) (by omega) hp)
  have HX := Lib.hid (fun (w1 : World) (hb : Below w.heap.size w w1) => hx.later (hb.mono hN) (Nat.le_refl _))
  have HS := Lib.hid hs
  have hm3 := hs.1
  have HOK := Lib.hid hok
  have HF := Lib.hid hf
  have HNN := Lib.hid hN
  clear h hx hs hm hf hok hN
  unfold PlayPost
  go_enter Try.func12, Try.ntmps12
  go_wp2_with fail
  refine HO.out.mono ?_
  rintro e w1 ⟨⟨g1, rfl, hI⟩, hB⟩
  have HI1 := Lib.hid hI
  have HB1 := Lib.hid hB
  clear hI hB HO
  go_wp2_with (go_at_call 11; refine (num_any _ _).mono ?_; rintro e w' ⟨rfl, rfl⟩)
  refine (HN.out _ HB1.out).mono ?_
  rintro e w2 ⟨⟨g2, rfl, hR⟩, hB⟩
  have hg1 := HI1.out.gt
  have HB2 := Lib.hid (HB1.out.trans (hB.mono HB1.out.size))
  have HI2 := Lib.hid (HI1.out.later hB)
  have hs1 := HB1.out.size
  obtain ⟨B2, hB2e⟩ : ∃ B, B = w1.heap.size := ⟨_, rfl⟩
  rw [← hB2e] at hR
  have hgB : g1 < B2 := by omega
  have hwB : w.heap.size ≤ B2 := by omega
  have HFl := Lib.hid (refFill_any l xss (fun _ => 0) (fun _ => 0) B2 g2 N p2 c2 w2 hR rel_0 HOK.out (HX.out _ HB2.out) HF.out (Nat.le_trans HNN.out HB2.out.size) (Nat.le_trans HNN.out hwB))
  clear hB hR HN HX HI1 hB2e hs1 hg1
  go_wp2_with fail
  refine HFl.out.mono ?_
  rintro e w3 ⟨rfl, ⟨bt, hR, hrl⟩, hX⟩
  have HI3 := Lib.hid (HI2.out.agx hX (.inl hgB))
  have HR3 := Lib.hid hR
  have HL3 := Lib.hid hrl
  have HB3 := Lib.hid (AgX.below HB2.out hX hwB HB2.out.size)
  clear hR hrl hX HFl HI2
  go_wp2_with fail
  go_loopw [9, 12, 13] (fun t9 t12 t13 wr => ∃ (ds rs : List Stp) (B1 g : Nat) (f bt : Nat → Nat), t9 = .pointer (some ⟨g, 0, none⟩) ∧ t12 = .bool true ∧ t13 = .int .i64 ds.length ∧ Hid (ss = ds ++ rs) ∧ ds.length + rs.length = ss.length ∧ Hid (MemIs wr B1 g l f) ∧ Hid (RefIs wr B2 g2 l bt) ∧ Hid (RelWB f bt) ∧ (g < B2 ∨ g2 < B1) ∧ w.heap.size ≤ B1 ∧ Hid (Below w.heap.size w wr)) (fun _ _ t13 _ => ss.length - (intOf t13).toNat)
  case atStart => exact ⟨[], ss, _, g1, _, bt, rfl, rfl, rfl, Lib.hid rfl, by simp, HI3, HR3, HL3, .inl hgB, Nat.le_refl _, HB3⟩
  case round =>
    clear HI3 HR3 HL3 HB3 hgB
    obtain ⟨ds, rs, B1, g, f, bt, rfl, rfl, rfl, hE, hk, hI, hR, hrl, hd, hwB1, hB⟩ := hrel
    cases rs with
    | nil =>
      simp only [List.length_nil] at hk
      have hge : ¬ ds.length < ss.length := by omega
      go_wp2_with fail
      exact bodyPost_ret (v := .tuple #[.pointer (some ⟨g, 0, none⟩), .pointer (some ⟨g2, 0, none⟩), .bool true]) (by simp [results, Try.results12, go_sem]) rfl ⟨B1, g, B2, g2, f, bt, rfl, hI.out, hR.out, hrl.out, hd, hwB1, hwB, hB.out⟩
    | cons s rs =>
      simp only [List.length_cons] at hk
      have hlt : ds.length < ss.length := by omega
      rcases HS.out.2 with h0 | ⟨b3, o3, rfl, hb3, ha3⟩
      · omega
      rw [hE.out] at ha3
      obtain ⟨⟨k0, k1, k2, ka, kx⟩, _⟩ := StpAt.drop _ _ _ ha3
      have hb3w : b3 < w.heap.size := by have := HNN.out; omega
      have d0 := (hB.out.cell (p := ⟨b3, o3 + ds.length * 3, none⟩) hb3w).trans k0
      have d1 := (hB.out.cell (p := ⟨b3, o3 + ds.length * 3 + 1, none⟩) hb3w).trans k1
      have d2 := (hB.out.cell (p := ⟨b3, o3 + ds.length * 3 + 2, none⟩) hb3w).trans k2
      have HD := Lib.hid (do_any l f bt B1 g B2 g2 s wr hI.out hR.out hrl.out hd HOK.out hl ka kx)
      clear k0 k1 k2 ka kx ha3
      go_wp2_with fail
      refine HD.out.mono ?_
      rintro e w4 ⟨B3, g3, f3, bt3, rfl, hI4, hR4, hrl4, hd4, hb4, hK⟩
      have HI4 := Lib.hid hI4
      have HR4 := Lib.hid hR4
      have HL4 := Lib.hid hrl4
      have HB4 := Lib.hid (hK w.heap.size w hwB1 hwB hB.out.size hB.out)
      have hwB3 : w.heap.size ≤ B3 := by have := hB.out.size; omega
      clear hI4 hR4 hrl4 hK HD hb4 d0 d1 d2
      go_wp2_with fail
      go_roundw
      case rel => exact ⟨ds ++ [s], rs, B3, g3, f3, bt3, rfl, rfl, by rw [List.length_append]; go_num, Lib.hid (by rw [hE.out]; simp), by simp; omega, HI4, HR4, HL4, hd4, hwB3, HB4⟩
      case measure => simp [intOf]; omega
end Go.Proofs.Ytajjpaabkdgjbaa
