/- The document's memory: Fill. -/
import Derived.Test.YtajjpaabkdgjbaaD5
namespace Go.Proofs.Ytajjpaabkdgjbaa
open Go.RowKit

/-- words of which the first k of a region's were stored -/
def fillW (f : Nat → Nat) (r : Rg) (xs : List Nat) (k : Nat) : Nat → Nat := fun j => if r.addr.toNat / 8 ≤ j ∧ j < r.addr.toNat / 8 + k then xs.getD (j - r.addr.toNat / 8) 0 else f j
def fillL : List Rg → List (List Nat) → (Nat → Nat) → (Nat → Nat)
  | r :: rs, x :: xs, f => fillL rs xs (fillW f r x x.length)
  | _, _, f => f
theorem fillW_0 (f : Nat → Nat) (r : Rg) (xs : List Nat) : fillW f r xs 0 = f := by funext j; unfold fillW; rw [if_neg (by omega)]
theorem fillW_succ (f : Nat → Nat) (r : Rg) (xs : List Nat) (k x : Nat) (hx : xs[k]? = some x) : upd (fillW f r xs k) (r.addr.toNat / 8 + k) x = fillW f r xs (k + 1) := by
  funext j
  unfold upd fillW
  by_cases h : j = r.addr.toNat / 8 + k
  · subst h
    rw [if_pos rfl, if_pos (by omega), Nat.add_sub_cancel_left, List.getD_eq_getElem?_getD, hx]; rfl
  · rw [if_neg h]
    by_cases h2 : r.addr.toNat / 8 ≤ j ∧ j < r.addr.toNat / 8 + k
    · rw [if_pos h2, if_pos (by omega)]
    · rw [if_neg h2, if_neg (by omega)]
theorem fillL_app : ∀ (ds : List Rg) (es : List (List Nat)) (r : Rg) (xs : List Nat) (f : Nat → Nat), ds.length = es.length → fillL (ds ++ [r]) (es ++ [xs]) f = fillW (fillL ds es f) r xs xs.length
  | [], [], r, xs, f, _ => rfl
  | d :: ds, e :: es, r, xs, f, h => by
    rw [List.cons_append, List.cons_append, fillL, fillL]
    exact fillL_app ds es r xs _ (by simpa using h)
  | [], _ :: _, _, _, _, h => by cases h
  | _ :: _, [], _, _, _, h => by cases h

theorem RefIs.reg {w : World} {B g : Nat} {l : List Rg} {bt : Nat → Nat} (h : RefIs w B g l bt) {ds rs : List Rg} {r : Rg} (hE : l = ds ++ r :: rs) :
    ∃ b o c, w.cell? ⟨g, 0, none⟩ = some (.slice (some ⟨b, o, none⟩) l.length c) ∧ w.cell? ⟨b, o + ds.length * 4 + 1, none⟩ = some (.int .i64 r.addr) := by
  obtain ⟨p, c, q, h1, h2, h4, h5, h6, h7, h8, h9, h10, h11, h12, h13⟩ := h
  rcases h4.2 with h0 | ⟨b, o, rfl, hb, hA⟩
  · rw [hE] at h0; simp at h0
  · rw [hE] at hA
    obtain ⟨⟨f0, f1, f2, f3⟩, _⟩ := RgAt.drop ds (r :: rs) b o hA
    exact ⟨b, o, c, h1, f1⟩

set_option maxRecDepth 100000 in
set_option maxHeartbeats 3200000 in
theorem refFill_any (l : List Rg) (xss : List (List Nat)) (f bt : Nat → Nat) (B g N : Nat) (p2 : Option Addr) (c2 : Nat) (w : World) (h : RefIs w B g l bt) (hr : RelWB f bt) (hok : l.all Rg.ok = true) (hx : WsIn w N xss p2) (hf : fitsB l xss = true) (hN : N ≤ w.heap.size) (hNB : N ≤ B) :
    Calls Try.prog 36 #[.pointer (some ⟨g, 0, none⟩), .slice p2 xss.length c2] w fun e w' => e = .returned (.tuple #[]) ∧ (∃ bt', RefIs w' B g l bt' ∧ RelWB (fillL l xss f) bt') ∧ AgX B g w w' := by
  have hm2 := hx.1
  have HL := Lib.hid (fitsB_len hf)
  have HR := Lib.hid h
  have HX := Lib.hid hx
  have HF := Lib.hid hf
  have HW := Lib.hid hr
  have HO := Lib.hid hok
  clear h hr hok hx hf
  go_enter Try.func36, Try.ntmps36
  go_wp2_with fail
  go_loopg [4] xss.length (fun gh i wr => ∃ (ds rs : List Rg) (es ss : List (List Nat)) (bt2 : Nat → Nat), gh = ss.length ∧ i = .int .i64 ds.length ∧ Hid (l = ds ++ rs) ∧ Hid (xss = es ++ ss) ∧ Hid (ds.length = es.length) ∧ ds.length + ss.length = xss.length ∧ Hid (RefIs wr B g l bt2) ∧ Hid (RelWB (fillL ds es f) bt2) ∧ Hid (AgX B g w wr))
  case atStart => exact ⟨[], l, [], xss, bt, rfl, rfl, Lib.hid rfl, Lib.hid rfl, Lib.hid rfl, by simp, HR, HW, Lib.hid (AgX.refl _ _ _)⟩
  case round =>
    obtain ⟨ds, rs, es, ss, bt2, hg, rfl, hE, hE2, hD, hk, hR2, hW2, hA⟩ := hrel
    cases ss with
    | nil =>
      simp only [List.length_nil] at hk hg
      have hge : ¬ ds.length < xss.length := by omega
      go_wp2_with fail
      go_end0
      have hrs : rs = [] := by
        have h1 := congrArg List.length hE.out
        have h2 := HL.out
        rw [List.length_append] at h1
        exact List.eq_nil_of_length_eq_zero (by omega)
      have e1 : l = ds := by have := hE.out; rw [hrs, List.append_nil] at this; exact this
      have e2 : xss = es := by have := hE2.out; rw [List.append_nil] at this; exact this
      rw [← e1, ← e2] at hW2
      exact ⟨rfl, ⟨bt2, hR2.out, hW2.out⟩, hA.out⟩
    | cons xs ss =>
      simp only [List.length_cons] at hk hg
      obtain ⟨r, rs, rfl⟩ : ∃ r rs', rs = r :: rs' := by
        cases rs with
        | cons r rs => exact ⟨r, rs, rfl⟩
        | nil =>
          have h1 := congrArg List.length hE.out
          have h2 := HL.out
          rw [List.length_append] at h1
          simp only [List.length_nil] at h1
          omega
      obtain ⟨b2, o2, rfl, hb2, hA2⟩ : ∃ b o, p2 = some ⟨b, o, none⟩ ∧ b < N ∧ ∀ (i : Nat) (xs : List Nat), xss[i]? = some xs → ∃ u, w.cell? ⟨b, o + i, none⟩ = some u ∧ WAt w N xs u := by
        rcases HX.out.2 with h0 | h0
        · omega
        · exact h0
      obtain ⟨u, hu, hw⟩ := hA2 ds.length xs (by rw [hE2.out, hD.out]; simp)
      obtain ⟨q3, c3, rfl, h32, h33, h34, h35⟩ := hw
      have hro : r.ok = true := List.all_eq_true.1 HO.out r (by rw [hE.out]; simp)
      obtain ⟨_, r0, r8, rb⟩ := Rg.ok_iff.1 hro
      obtain ⟨_, _, rz1, rz2⟩ := (Rg.ok_iff.1 hro).1
      obtain ⟨ad, had⟩ : ∃ ad : Nat, r.addr = (ad : Int) := ⟨r.addr.toNat, by omega⟩
      have hsz := fitsB_get HF.out ds.length r xs (by rw [hE.out]; simp) (by rw [hE2.out, hD.out]; simp)
      have hlt : ds.length < xss.length := by omega
      have hlt2 : ds.length < l.length := by have := congrArg List.length hE.out; rw [List.length_append, List.length_cons] at this; omega
      have k0 : (0 : Int) ≤ (ds.length : Int) := by omega
      have k1 : (ds.length : Int) < (l.length : Int) := by omega
      have k2 : (ds.length : Int) < (xss.length : Int) := by omega
      have hx512 : xs.length ≤ 512 := by omega
      have had2 : ad + 8 * xs.length ≤ 49152 := by omega
      have had8 : ad % 8 = 0 := by omega
      have HU := Lib.hid (And.intro hu h35)
      have HK := Lib.hid hk
      have HG := Lib.hid hg
      clear hA2 hu h35 hro r8 rb rz1 rz2 hsz r0 hk hg
      go_wp2_with fail
      go_loopg [5] xs.length (fun gh2 i wr2 => ∃ (k : Nat) (bt3 : Nat → Nat), gh2 = xs.length - k ∧ k ≤ xs.length ∧ i = .int .i64 k ∧ Hid (RefIs wr2 B g l bt3) ∧ Hid (RelWB (fillW (fillL ds es f) r xs k) bt3) ∧ Hid (AgX B g w wr2))
      case atStart => exact ⟨0, bt2, by omega, by omega, rfl, hR2, Lib.hid (by rw [fillW_0]; exact hW2.out), hA⟩
      case round =>
        obtain ⟨k, bt3, hg2, hk3, rfl, hR3, hW3, hA3⟩ := hrel
        have gu := ((AgX.below (Below.refl N w) hA3.out hNB hN).cell (p := ⟨b2, o2 + ds.length, none⟩) hb2).trans HU.out.1
        by_cases hin : k < xs.length
        · obtain ⟨g3, e3, rfl, hg3, hc3⟩ := HU.out.2 (by omega)
          obtain ⟨hx3, hxl⟩ := hc3 k xs[k] (List.getElem?_eq_getElem hin)
          have gx := ((AgX.below (Below.refl N w) hA3.out hNB hN).cell (p := ⟨g3, e3 + k, none⟩) hg3).trans hx3
          have HS := Lib.hid (List.getElem?_eq_getElem hin)
          generalize xs[k] = x at HS gx hxl
          obtain ⟨b, o, c, q1, q2⟩ := hR3.out.reg hE.out
          rw [had] at q2
          have j0 : (0 : Int) ≤ (k : Int) := by omega
          have j1 : (k : Int) < (xs.length : Int) := by omega
          have e1 : IntKind.i64.wrap (8 * (k : Int)) = 8 * (k : Int) := IntWalk.i64_in _ (by omega)
          have e2 : IntKind.i64.wrap ((ad : Int) + 8 * (k : Int)) = (ad : Int) + 8 * (k : Int) := IntWalk.i64_in _ (by omega)
          have HP := Lib.hid (fun (w1 : World) (hR : RefIs w1 B g l bt3) => by
            have := put_any l bt3 B g (ad + 8 * k) x w1 hR (by omega) hxl
            push_cast at this
            exact this)
          clear hc3 hx3
          have HG2 := Lib.hid hg2
          clear hg2
          go_wp2_with fail
          go_still_tail 19, (by kernel_rfl)
          change wpList _ _ _ _ _ (World.drew _)
          go_wp2_with (go_at_call 56; refine (HP.out _ (hR3.out.later (Below.refl _ _).drew)).mono ?_; rintro e w5 ⟨rfl, hR5, hA5⟩; have HR5 := Lib.hid hR5; have HA5 := Lib.hid hA5; clear hR5 hA5)
          go_roundg (xs.length - (k + 1))
          case measure => have := HG2.out; omega
          case rel =>
            refine ⟨k + 1, _, rfl, by omega, by go_num, HR5, Lib.hid ?_, Lib.hid ((hA3.out.trans (AgX.of (Below.refl _ _).drew)).trans HA5.out)⟩
            rw [← fillW_succ _ _ _ _ _ HS.out]
            have h1 := hW3.out.put (r.addr.toNat / 8 + k) x
            rw [show 8 * (r.addr.toNat / 8 + k) = ad + 8 * k by omega] at h1
            exact h1
        · obtain rfl : k = xs.length := by omega
          have HG2 := Lib.hid hg2
          clear hg2
          go_wp2_with fail
          go_roundg ss.length
          case measure => have := HG.out; omega
          case rel =>
            refine ⟨ds ++ [r], rs, es ++ [xs], ss, bt3, rfl, by rw [List.length_append]; go_num, Lib.hid (by rw [hE.out]; simp), Lib.hid (by rw [hE2.out]; simp), Lib.hid (by have := hD.out; simp; omega), by have := HK.out; simp; omega, hR3, Lib.hid ?_, hA3⟩
            rw [fillL_app _ _ _ _ _ hD.out]; exact hW3.out
end Go.Proofs.Ytajjpaabkdgjbaa
