/- fits: slices.EqualFunc. -/
import Derived.Test.YtajjpaabkdgjbaaD6
import Derived.Test.YtajjpaabkdgjbaaC3
namespace Go.Proofs.Ytajjpaabkdgjbaa
open Go.RowKit

theorem fits1_any (r : Rg) (q : Option Addr) (n c : Nat) (w : World) :
    Calls Try.prog 53 #[.agg #[.string r.name, .int .i64 r.addr, .int .i64 r.size, .bool r.sec], .slice q n c] w fun e w' => e = .returned (.bool (decide ((n : Int) = r.size))) ∧ Below w.heap.size w w' := by
  go_enter Try.func53, Try.ntmps53
  go_wp2_with fail
  go_ret
  exact ⟨ret_bool (by simp [BEq.beq]), (Below.refl _ w).alloc (Nat.le_refl _) _⟩

set_option maxRecDepth 100000 in
set_option maxHeartbeats 1600000 in
theorem eqFunc_any (l : List Rg) (xss : List (List Nat)) (p p2 : Option Addr) (c c2 N : Nat) (w : World) (h : RgIn w N l p) (hx : WsIn w N xss p2) (hN : N ≤ w.heap.size) :
    Calls Try.prog 52 #[.slice p l.length c, .slice p2 xss.length c2, .func (.func 53) #[] #[]] w fun e w' => e = .returned (.bool (fitsB l xss)) ∧ Below w.heap.size w w' := by
  have HS := Lib.hid h
  have HX := Lib.hid hx
  have hm := h.1
  have hm2 := hx.1
  clear h hx
  obtain ⟨z0, hz0⟩ : ∃ z : Bool, fitsB l xss = z := ⟨_, rfl⟩
  rw [hz0]
  have HZ := Lib.hid hz0
  by_cases hlen : l.length = xss.length
  · have d0 : ((l.length : Int) != (xss.length : Int)) = false := by simp; omega
    have HL := Lib.hid hlen
    clear hz0 hlen
    go_enter Try.func52, Try.ntmps52
    go_wp2_with fail
    go_loopg [17] l.length (fun gh i wr => ∃ (ds rs : List Rg) (es ss : List (List Nat)), gh = rs.length ∧ i = .int .i64 ds.length ∧ Hid (l = ds ++ rs) ∧ Hid (xss = es ++ ss) ∧ Hid (ds.length = es.length) ∧ ds.length + rs.length = l.length ∧ Hid (fitsB l xss = fitsB rs ss) ∧ Hid (Below w.heap.size w wr))
    case atStart => exact ⟨[], l, [], xss, rfl, rfl, Lib.hid rfl, Lib.hid rfl, Lib.hid rfl, by simp, Lib.hid rfl, Lib.hid (Below.refl _ _)⟩
    case round =>
      obtain ⟨ds, rs, es, ss, hg, rfl, hE, hE2, HD, hk, hI, hB⟩ := hrel
      have hde := HD.out
      have hlen := HL.out
      have hk2 : es.length + ss.length = xss.length := by rw [hE2.out, List.length_append]
      cases rs with
      | nil =>
        simp only [List.length_nil] at hk
        have hge : ¬ ds.length < l.length := by omega
        have hss : ss = [] := List.eq_nil_of_length_eq_zero (by omega)
        clear hde hlen hk2
        go_wp2_with fail
        go_ret
        have h0 := HZ.out
        rw [hI.out, hss] at h0
        exact ⟨ret_bool h0, hB.out⟩
      | cons r rs =>
        simp only [List.length_cons] at hk hg
        cases ss with
        | nil => simp only [List.length_nil] at hk2; omega
        | cons xs ss =>
          simp only [List.length_cons] at hk2
          obtain ⟨b, o, rfl, hb, hA⟩ : ∃ b o, p = some ⟨b, o, none⟩ ∧ b < N ∧ RgAt w l b o := by
            rcases HS.out.2 with h0 | h0
            · omega
            · exact h0
          obtain ⟨b2, o2, rfl, hb2, hA2⟩ : ∃ b o, p2 = some ⟨b, o, none⟩ ∧ b < N ∧ ∀ (i : Nat) (xs : List Nat), xss[i]? = some xs → ∃ u, w.cell? ⟨b, o + i, none⟩ = some u ∧ WAt w N xs u := by
            rcases HX.out.2 with h0 | h0
            · omega
            · exact h0
          rw [hE.out] at hA
          obtain ⟨⟨f0, f1, f2, f3⟩, _⟩ := RgAt.drop ds (r :: rs) b o hA
          have g0 := (hB.out.cell (show b < w.heap.size by omega)).trans f0
          have g1 := (hB.out.cell (show b < w.heap.size by omega)).trans f1
          have g2 := (hB.out.cell (show b < w.heap.size by omega)).trans f2
          have g3 := (hB.out.cell (show b < w.heap.size by omega)).trans f3
          obtain ⟨u, hu, hw⟩ := hA2 ds.length xs (by rw [hE2.out, hde]; simp)
          obtain ⟨q3, c3, rfl, h32, h33, _⟩ := hw
          have gu := fun (o : Obj) => (World.cell?_alloc_past o _ _ (World.block_lt_of_cell? _ _ ((hB.out.cell (p := ⟨b2, o2 + ds.length, none⟩) (show b2 < w.heap.size by omega)).trans hu))).trans ((hB.out.cell (p := ⟨b2, o2 + ds.length, none⟩) (show b2 < w.heap.size by omega)).trans hu)
          have hlt : ds.length < l.length := by omega
          have hlt2 : ds.length < xss.length := by omega
          have HB2 := Lib.hid (hB.out.trans (((Below.refl _ wr).alloc (Nat.le_refl _) (Obj.cells #[.string r.name, .int .i64 r.addr, .int .i64 r.size, .bool r.sec] 66)).mono hB.out.size))
          clear hA hA2 f0 f1 f2 f3 hu hde hlen hk2
          have HC := Lib.hid (fits1_any r q3 xs.length c3)
          by_cases hin : (xs.length : Int) = r.size
          · rw [decide_eq_true hin] at HC
            have HN := Lib.hid (show fitsB l xss = fitsB rs ss by rw [hI.out, fitsB, decide_eq_true hin, Bool.true_and])
            clear hin
            go_wp2_with fail
            refine (HC.out _).mono ?_
            rintro e w1 ⟨rfl, hB1⟩
            have HB3 := Lib.hid (HB2.out.trans (hB1.mono HB2.out.size))
            clear hB1 gu
            go_wp2_with fail
            go_roundg rs.length
            case measure => omega
            case rel => exact ⟨ds ++ [r], rs, es ++ [xs], ss, rfl, by rw [List.length_append]; go_num, Lib.hid (by rw [hE.out]; simp), Lib.hid (by rw [hE2.out]; simp), Lib.hid (by have := HD.out; simp; omega), by simp; omega, HN, HB3⟩
          · rw [decide_eq_false hin] at HC
            have h0 := HZ.out
            rw [hI.out, fitsB, decide_eq_false hin, Bool.false_and] at h0
            have H0 := Lib.hid h0
            clear hin h0
            go_wp2_with fail
            refine (HC.out _).mono ?_
            rintro e w1 ⟨rfl, hB1⟩
            have HB3 := Lib.hid (HB2.out.trans (hB1.mono HB2.out.size))
            clear hB1 gu
            go_wp2_with fail
            go_ret
            exact ⟨ret_bool H0.out, HB3.out⟩
  · have d0 : ((l.length : Int) != (xss.length : Int)) = true := by simp; omega
    obtain rfl : z0 = false := by
      cases z0 with
      | false => rfl
      | true => exact absurd (fitsB_len hz0) hlen
    clear hz0
    go_enter Try.func52, Try.ntmps52
    go_wp2_with fail
    go_ret
    exact ⟨rfl, Below.refl _ _⟩

set_option maxHeartbeats 800000 in
theorem fits_any (l : List Rg) (xss : List (List Nat)) (p p2 : Option Addr) (c c2 N : Nat) (w : World) (h : RgIn w N l p) (hx : WsIn w N xss p2) (hN : N ≤ w.heap.size) :
    Calls Try.prog 32 #[.slice p l.length c, .slice p2 xss.length c2] w fun e w' => e = .returned (.bool (fitsB l xss)) ∧ Below w.heap.size w w' := by
  have HC := Lib.hid (eqFunc_any l xss p p2 c c2 N w h hx hN)
  generalize fitsB l xss = z at HC ⊢
  clear h hx
  go_enter Try.func32, Try.ntmps32
  go_wp2_with (go_at_call 52; refine HC.out.mono ?_; rintro e w' ⟨rfl, hB⟩)
  go_ret
  exact ⟨rfl, hB⟩
end Go.Proofs.Ytajjpaabkdgjbaa
