/- Rows of words that come in. The document's Fits. -/
import Derived.Test.YtajjpaabkdgjbaaD4
namespace Go.Proofs.Ytajjpaabkdgjbaa
open Go.RowKit

/-- the cells of a row of words -/
def WAt (w : World) (N : Nat) (xs : List Nat) (u : Value) : Prop :=
  ∃ (q : Option Addr) (c : Nat), u = .slice q xs.length c ∧ xs.length ≤ c ∧ c ≤ 9223372036854775807 ∧ (q = none → c = 0) ∧ (0 < xs.length → ∃ g e, q = some ⟨g, e, none⟩ ∧ g < N ∧ ∀ (k x : Nat), xs[k]? = some x → w.cell? ⟨g, e + k, none⟩ = some (.int .u64 (x : Int)) ∧ x < 18446744073709551616)
/-- rows of words, as they come in -/
def WsIn (w : World) (N : Nat) (xss : List (List Nat)) (p : Option Addr) : Prop :=
  xss.length ≤ 9223372036854775807 ∧ (xss.length = 0 ∨ ∃ b o, p = some ⟨b, o, none⟩ ∧ b < N ∧ ∀ (i : Nat) (xs : List Nat), xss[i]? = some xs → ∃ u, w.cell? ⟨b, o + i, none⟩ = some u ∧ WAt w N xs u)
theorem WAt.later {w w' : World} {N n : Nat} {xs : List Nat} {u : Value} (h : WAt w N xs u) (hB : Below n w w') (hN : N ≤ n) : WAt w' N xs u := by
  obtain ⟨q, c, h1, h2, h3, h4, h5⟩ := h
  refine ⟨q, c, h1, h2, h3, h4, fun h0 => ?_⟩
  obtain ⟨g, e, hq, hg, hc⟩ := h5 h0
  exact ⟨g, e, hq, hg, fun k x hx => ⟨(hB.cell (p := ⟨g, e + k, none⟩) (show g < n by omega)).trans (hc k x hx).1, (hc k x hx).2⟩⟩
theorem WsIn.later {w w' : World} {N n : Nat} {xss : List (List Nat)} {p : Option Addr} (h : WsIn w N xss p) (hB : Below n w w') (hN : N ≤ n) : WsIn w' N xss p := by
  refine ⟨h.1, ?_⟩
  rcases h.2 with h0 | ⟨b, o, hp, hb, hc⟩
  · exact .inl h0
  · refine .inr ⟨b, o, hp, hb, fun i xs hx => ?_⟩
    obtain ⟨u, hu, hw⟩ := hc i xs hx
    exact ⟨u, (hB.cell (p := ⟨b, o + i, none⟩) (show b < n by omega)).trans hu, hw.later hB hN⟩

/-- do these words fit these regions? -/
def fitsB : List Rg → List (List Nat) → Bool
  | [], [] => true
  | r :: rs, x :: xs => decide ((x.length : Int) = r.size) && fitsB rs xs
  | _, _ => false
theorem fitsB_len : ∀ {l : List Rg} {x : List (List Nat)}, fitsB l x = true → l.length = x.length
  | [], [], _ => rfl
  | r :: rs, y :: ys, h => by
    rw [fitsB, Bool.and_eq_true] at h
    simp [fitsB_len h.2]
  | [], _ :: _, h => by cases h
  | _ :: _, [], h => by cases h
theorem fitsB_get : ∀ {l : List Rg} {x : List (List Nat)}, fitsB l x = true → ∀ (i : Nat) (r : Rg) (xs : List Nat), l[i]? = some r → x[i]? = some xs → (xs.length : Int) = r.size
  | [], [], _, i, r, xs, h1, _ => by simp at h1
  | r0 :: rs, y :: ys, h, 0, r, xs, h1, h2 => by
    rw [fitsB, Bool.and_eq_true] at h
    simp at h1 h2
    subst h1 h2
    exact of_decide_eq_true h.1
  | r0 :: rs, y :: ys, h, i + 1, r, xs, h1, h2 => by
    rw [fitsB, Bool.and_eq_true] at h
    exact fitsB_get h.2 i r xs (by simpa using h1) (by simpa using h2)
  | [], _ :: _, h, _, _, _, _, _ => by cases h
  | _ :: _, [], h, _, _, _, _, _ => by cases h

set_option maxHeartbeats 1600000 in
theorem refFits_any (l : List Rg) (xss : List (List Nat)) (p p2 : Option Addr) (c c2 N : Nat) (w : World) (h : RgIn w N l p) (hx : WsIn w N xss p2) (hN : N ≤ w.heap.size) :
    Calls Try.prog 9 #[.slice p l.length c, .slice p2 xss.length c2] w fun e w' => e = .returned (.bool (fitsB l xss)) ∧ Below w.heap.size w w' := by
  have HS := Lib.hid h
  have HX := Lib.hid hx
  have hm := h.1
  have hm2 := hx.1
  clear h hx
  obtain ⟨z0, hz0⟩ : ∃ z : Bool, fitsB l xss = z := ⟨_, rfl⟩
  rw [hz0]
  have HZ := Lib.hid hz0
  by_cases hlen : l.length = xss.length
  · have d0 : ((l.length : Int) != (xss.length : Int)) = false := by simp; omega
    have HL := Lib.hid hlen
    clear hz0 hlen
    go_enter Try.func9, Try.ntmps9
    go_wp2_with fail
    go_loopg [5] l.length (fun gh i wr => ∃ (ds rs : List Rg) (es ss : List (List Nat)), gh = rs.length ∧ i = .int .i64 ds.length ∧ Hid (l = ds ++ rs) ∧ Hid (xss = es ++ ss) ∧ Hid (ds.length = es.length) ∧ ds.length + rs.length = l.length ∧ Hid (fitsB l xss = fitsB rs ss) ∧ Hid (Below w.heap.size w wr))
    case atStart => exact ⟨[], l, [], xss, rfl, rfl, Lib.hid rfl, Lib.hid rfl, Lib.hid rfl, by simp, Lib.hid rfl, Lib.hid (Below.refl _ _)⟩
    case round =>
      obtain ⟨ds, rs, es, ss, hg, rfl, hE, hE2, HD, hk, hI, hB⟩ := hrel
      have hde := HD.out
      have hlen := HL.out
      have hk2 : es.length + ss.length = xss.length := by rw [hE2.out, List.length_append]
      cases rs with
      | nil =>
        simp only [List.length_nil] at hk
        have hge : ¬ ds.length < l.length := by omega
        have hss : ss = [] := List.eq_nil_of_length_eq_zero (by omega)
        clear hde hlen hk2
        go_wp2_with fail
        go_ret
        have h0 := HZ.out
        rw [hI.out, hss] at h0
        exact ⟨ret_bool h0, hB.out⟩
      | cons r rs =>
        simp only [List.length_cons] at hk hg
        cases ss with
        | nil => simp only [List.length_nil] at hk2; omega
        | cons xs ss =>
          simp only [List.length_cons] at hk2
          obtain ⟨b, o, rfl, hb, hA⟩ : ∃ b o, p = some ⟨b, o, none⟩ ∧ b < N ∧ RgAt w l b o := by
            rcases HS.out.2 with h0 | h0
            · omega
            · exact h0
          obtain ⟨b2, o2, rfl, hb2, hA2⟩ : ∃ b o, p2 = some ⟨b, o, none⟩ ∧ b < N ∧ ∀ (i : Nat) (xs : List Nat), xss[i]? = some xs → ∃ u, w.cell? ⟨b, o + i, none⟩ = some u ∧ WAt w N xs u := by
            rcases HX.out.2 with h0 | h0
            · omega
            · exact h0
          rw [hE.out] at hA
          obtain ⟨⟨f0, f1, f2, f3⟩, _⟩ := RgAt.drop ds (r :: rs) b o hA
          have g2 := (hB.out.cell (show b < w.heap.size by omega)).trans f2
          obtain ⟨u, hu, hw⟩ := hA2 ds.length xs (by rw [hE2.out, hde]; simp)
          obtain ⟨q3, c3, rfl, h32, h33, _⟩ := hw
          have gu := (hB.out.cell (p := ⟨b2, o2 + ds.length, none⟩) (show b2 < w.heap.size by omega)).trans hu
          have hlt : ds.length < l.length := by omega
          have hlt2 : ds.length < xss.length := by omega
          have k0 : (0 : Int) ≤ (ds.length : Int) := by omega
          have k1 : (ds.length : Int) < (l.length : Int) := by omega
          have k2 : (ds.length : Int) < (xss.length : Int) := by omega
          clear hA hA2 f0 f1 f2 f3 hu hde hlen hk2
          by_cases hin : (xs.length : Int) = r.size
          · have d1 : ((xs.length : Int) != r.size) = false := by simpa using hin
            have HN := Lib.hid (show fitsB l xss = fitsB rs ss by rw [hI.out, fitsB, decide_eq_true hin, Bool.true_and])
            clear hin
            go_wp2_with fail
            go_quiet (fail)
            all_goals go_wp2_with fail
            all_goals go_roundg rs.length
            case measure => omega
            case rel => exact ⟨ds ++ [r], rs, es ++ [xs], ss, rfl, by rw [List.length_append]; go_num, Lib.hid (by rw [hE.out]; simp), Lib.hid (by rw [hE2.out]; simp), Lib.hid (by have := HD.out; simp; omega), by simp; omega, HN, Lib.hid (below_drewN hB.out _)⟩
          · have d1 : ((xs.length : Int) != r.size) = true := by simpa using hin
            have h0 := HZ.out
            rw [hI.out, fitsB, decide_eq_false hin, Bool.false_and] at h0
            have H0 := Lib.hid h0
            clear hin h0
            go_wp2_with fail
            go_quiet (fail)
            all_goals go_wp2_with fail
            all_goals go_ret
            all_goals exact ⟨ret_bool H0.out, below_drewN hB.out _⟩
  · have d0 : ((l.length : Int) != (xss.length : Int)) = true := by simp; omega
    obtain rfl : z0 = false := by
      cases z0 with
      | false => rfl
      | true => exact absurd (fitsB_len hz0) hlen
    clear hz0
    go_enter Try.func9, Try.ntmps9
    go_wp2_with fail
    go_ret
    exact ⟨rfl, Below.refl _ _⟩
end Go.Proofs.Ytajjpaabkdgjbaa
