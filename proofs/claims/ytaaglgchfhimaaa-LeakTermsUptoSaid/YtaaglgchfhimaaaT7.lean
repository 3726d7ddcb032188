/- The document's terms. -/
import Derived.Test.YtaaglgchfhimaaaT5
namespace Go.Proofs.Ytaaglgchfhimaaa
open Go.RowKit

def okSubs (k : Int) (ns : Nat) : Bool :=
  if k = 6 then true
  else if k = 1 ∨ k = 2 ∨ k = 8 then ns == 0
  else if k = 4 ∨ k = 5 ∨ k = 9 then ns == 1
  else if k = 3 ∨ k = 7 then ns == 2
  else false
def Tf.refBehind : Tf → Bool
  | .nil => true
  | .node k ls _ _ r => k == 2 && refPicks false ls && r.refBehind
mutual
def Tf.refT : Tf → Bool
  | .nil => true
  | .node k ls _ s r => okSubs k s.len && refPicks true ls && (k != 7 || s.second.refBehind) && s.refT && r.refT
def Ts.refT : Ts → Bool
  | .nil => true
  | .sub l r => l.refT && r.refT
end

def RefTo (n : Nat) : Prop := ∀ (l : Tf), l.size < n → ∀ (p : Option Addr) (cap N : Nat) (w : World), l.In w N p → N ≤ w.heap.size →
    Calls Try.prog 10 #[.slice p l.len cap] w fun e w' => e = .returned (.bool l.refT) ∧ Below w.heap.size w w'

set_option maxRecDepth 100000 in
set_option maxHeartbeats 6400000 in
theorem ref_step (n : Nat) (ih : RefTo n) : RefTo (n + 1) := by
  intro l hsz p cap N w h hN
  have IH := Lib.hid ih
  clear ih
  have S0 := Lib.hid h
  have hm := h.1
  clear h
  go_enter Try.func10, Try.ntmps10
  go_wp2_with fail
  go_loopw [3] (fun i wr => ∃ (k : Nat) (r : Tf), i = .int .i64 k ∧ k + r.len = l.len ∧ r.size ≤ n ∧ Hid (∀ b o, p = some ⟨b, o, none⟩ → l.At w N b o → r.At w N b (o + k * 4)) ∧ Hid (l.refT = r.refT) ∧ Hid (Below w.heap.size w wr))
    (fun i _ => l.len - (intOf i).toNat)
  case atStart => exact ⟨0, l, rfl, by omega, by omega, Lib.hid fun b o _ h => by rw [Nat.zero_mul]; exact h, Lib.hid rfl, Lib.hid (Below.refl _ _)⟩
  case round =>
    obtain ⟨k, r, rfl, hk, hrs, hat, E, hB⟩ := hrel
    cases r with
    | nil =>
      simp only [Tf.len] at hk
      have hge : ¬ k < l.len := by omega
      go_wp2_with fail
      go_ret
      exact ⟨ret_bool (by rw [E.out]; rfl), hB.out⟩
    | node kd ls t s r =>
      simp only [Tf.len] at hk
      simp only [Tf.size] at hrs
      have hlt : k < l.len := by omega
      rcases S0.out.2 with h30 | ⟨b, o, rfl, hb, ha⟩
      · omega
      obtain ⟨g0, ⟨q, cq, g1, s1⟩, g2, ⟨q3, d, g3, s3⟩, hr⟩ := hat.out b o rfl ha
      have f0 := (hB.out.cell (show b < w.heap.size by omega)).trans g0
      have f1 := (hB.out.cell (show b < w.heap.size by omega)).trans g1
      have f2 := (hB.out.cell (show b < w.heap.size by omega)).trans g2
      have f3 := (hB.out.cell (show b < w.heap.size by omega)).trans g3
      have HP := Lib.hid (fun (w1 : World) (hB1 : Below w.heap.size w w1) => refPicks_true ls q cq N w1 (s1.imp (Nat.le_refl _) fun b' o' hb' ha' => Plines.later (hB1.mono hN) (Nat.le_refl _) _ _ _ hb' ha') (Nat.le_trans hN hB1.size))
      have E1 := Lib.hid (show l.refT = (okSubs kd s.len && refPicks true ls && (kd != 7 || s.second.refBehind) && s.refT && r.refT) by rw [E.out]; rfl)
      have hBal := Lib.hid (fun (o : Obj) => hB.out.alloc hB.out.size o)
      have HQ := Lib.hid hr
      have S3 := Lib.hid s3
      have hm3 := s3.1
      clear g0 g1 g2 g3 s1 s3 hr ha E
      cases hS : okSubs kd s.len with
      | false =>
        rw [hS] at E1
        have HB := Lib.hid (show l.refT = false by rw [E1.out]; simp)
        have hcase : ((kd = 1 ∨ kd = 2 ∨ kd = 8) ∧ ¬ s.len = 0) ∨ ((kd = 4 ∨ kd = 5 ∨ kd = 9) ∧ ¬ (s.len : Int) = 1) ∨ ((kd = 3 ∨ kd = 7) ∧ ¬ (s.len : Int) = 2) ∨
            ((kd == 1) = false ∧ (kd == 2) = false ∧ (kd == 8) = false ∧ (kd == 4) = false ∧ (kd == 5) = false ∧ (kd == 9) = false ∧ (kd == 3) = false ∧ (kd == 7) = false ∧ (kd == 6) = false) := by
          have hS' := hS
          unfold okSubs at hS'
          split at hS'
          · cases hS'
          · split at hS'
            · rename_i h6 h1; left; exact ⟨h1, by simpa using hS'⟩
            · split at hS'
              · rename_i h6 h1 h4; right; left; exact ⟨h4, (by have : ¬ s.len = 1 := (by simpa using hS'); omega)⟩
              · split at hS'
                · rename_i h6 h1 h4 h3; right; right; left; exact ⟨h3, (by have : ¬ s.len = 2 := (by simpa using hS'); omega)⟩
                · rename_i h6 h1 h4 h3; right; right; right; refine ⟨?_, ?_, ?_, ?_, ?_, ?_, ?_, ?_, ?_⟩ <;> (apply beq_eq_false_iff_ne.2; omega)
        clear hat HQ S3 HP hS
        rcases hcase with ⟨hk1, hn1⟩ | ⟨hk1, hn1⟩ | ⟨hk1, hn1⟩ | ⟨e1, e2, e8, e4, e5, e9, e3, e7, e6⟩
        · rcases hk1 with rfl | rfl | rfl
          all_goals
            go_wp2_with fail
            go_ret
            exact ⟨ret_bool HB.out.symm, hBal.out _⟩
        · rcases hk1 with rfl | rfl | rfl
          all_goals
            go_wp2_with fail
            go_ret
            exact ⟨ret_bool HB.out.symm, hBal.out _⟩
        · rcases hk1 with rfl | rfl
          all_goals
            go_wp2_with fail
            go_ret
            exact ⟨ret_bool HB.out.symm, hBal.out _⟩
        · go_wp2_with fail
          go_ret
          exact ⟨ret_bool HB.out.symm, hBal.out _⟩
      | true =>
        rw [hS] at E1
        have hcase : ((kd = 1 ∨ kd = 2 ∨ kd = 8) ∧ s.len = 0) ∨ ((kd = 4 ∨ kd = 5 ∨ kd = 9) ∧ s.len = 1) ∨ (kd = 3 ∧ s.len = 2) ∨ kd = 6 ∨ (kd = 7 ∧ s.len = 2) := by
          have hS' := hS
          unfold okSubs at hS'
          split at hS'
          · omega
          · split at hS'
            · rename_i h6 h1; left; exact ⟨h1, by simpa using hS'⟩
            · split at hS'
              · rename_i h6 h1 h4; right; left; exact ⟨h4, by simpa using hS'⟩
              · split at hS'
                · rename_i h6 h1 h4 h3; have : s.len = 2 := by simpa using hS'
                  omega
                · cases hS'
        clear hS
        cases hPk : refPicks true ls with
        | false =>
          rw [hPk] at E1 HP
          have HB := Lib.hid (show l.refT = false by rw [E1.out]; simp)
          clear hat HQ S3
          rcases hcase with ⟨hk1, hn1⟩ | ⟨hk1, hn1⟩ | ⟨hk1, hn1⟩ | hk1 | ⟨hk1, hn1⟩
          · rcases hk1 with rfl | rfl | rfl
            all_goals
              go_wp2_with (go_at_call 27; refine (HP.out _ (hBal.out _)).mono ?_; rintro e w1 ⟨rfl, hB1⟩)
              go_ret
              exact ⟨ret_bool HB.out.symm, (hBal.out _).trans (hB1.mono (by simp; have := hB.out.size; omega))⟩
          · rcases hk1 with rfl | rfl | rfl
            all_goals
              go_wp2_with (go_at_call 27; refine (HP.out _ (hBal.out _)).mono ?_; rintro e w1 ⟨rfl, hB1⟩)
              go_ret
              exact ⟨ret_bool HB.out.symm, (hBal.out _).trans (hB1.mono (by simp; have := hB.out.size; omega))⟩
          all_goals
            subst hk1
            go_wp2_with (go_at_call 27; refine (HP.out _ (hBal.out _)).mono ?_; rintro e w1 ⟨rfl, hB1⟩)
            go_ret
            exact ⟨ret_bool HB.out.symm, (hBal.out _).trans (hB1.mono (by simp; have := hB.out.size; omega))⟩
        | true =>
          rw [hPk] at E1 HP
          have HF3 := Lib.hid (fun (w1 : World) (hB1 : Below wr.heap.size wr w1) => (hB1.cell (show b < wr.heap.size by have := hB.out.size; omega)).trans f3)
          have hsz := hB.out.size
          have HX := Lib.hid (show ∀ (n3 : Nat) (w1 : World), Below (wr.alloc (Obj.cells #[.int .i64 kd, .slice q ls.length cq, .bool t, .slice q3 n3 d] 56)).heap.size (wr.alloc (Obj.cells #[.int .i64 kd, .slice q ls.length cq, .bool t, .slice q3 n3 d] 56)) w1 →
              w1.cell? ⟨wr.heap.size, 0, none⟩ = some (.int .i64 kd) ∧ w1.cell? ⟨wr.heap.size, 3, none⟩ = some (.slice q3 n3 d) from
            fun n3 w1 hb1 => ⟨(hb1.cell (by simp)).trans (by simp [go_sem]), (hb1.cell (by simp)).trans (by simp [go_sem])⟩)
          by_cases h7 : kd = 7
          · subst h7
            have hn2 : s.len = 2 := by omega
            obtain ⟨l0, l1, hs01⟩ : ∃ l0 l1, s = .sub l0 (.sub l1 .nil) := by
              cases s with
              | nil => simp [Ts.len] at hn2
              | sub l0 r0 => cases r0 with
                | nil => simp [Ts.len] at hn2
                | sub l1 r1 => cases r1 with | nil => exact ⟨l0, l1, rfl⟩ | sub => simp [Ts.len] at hn2
            rcases S3.out.2 with h30 | ⟨b3, o3, rfl, hb3, ha3⟩
            · omega
            have ha4 := ha3
            rw [hs01] at ha4
            obtain ⟨_, ⟨p1, c1, g5, s5⟩, _⟩ := ha4
            have S5 := Lib.hid s5
            have hm5 := s5.1
            have E2 := Lib.hid (show l.refT = (l1.refBehind && (s.refT && r.refT)) by rw [E1.out, show s.second = l1 from by rw [hs01]; rfl]; simp [Bool.and_assoc])
            clear hcase s5 E1 hs01
            go_wp2_with (go_at_call 27; refine (HP.out _ (hBal.out _)).mono ?_; rintro e w1 ⟨rfl, hB1⟩; obtain ⟨x0, x3⟩ := HX.out _ _ hB1)
            have hW := Lib.hid ((hBal.out _).trans (hB1.mono (by simp; omega)))
            have hsz1 := hB1.size
            have HX3 := Lib.hid (fun (w2 : World) (hb2 : Below w1.heap.size w1 w2) => (hb2.cell (show wr.heap.size < w1.heap.size by simp at hsz1; omega)).trans x3)
            have G5 := Lib.hid g5
            clear hBal HP HX hPk f1 f2 HF3 hB1 x0 x3 hB hsz1 g5 ha3
            go_loopw [6] (fun i wr' => ∃ (j : Nat) (z : Tf), i = .int .i64 j ∧ j + z.len = l1.len ∧ Hid (∀ b o, p1 = some ⟨b, o, none⟩ → l1.At w N b o → z.At w N b (o + j * 4)) ∧
                Hid (l.refT = (z.refBehind && (s.refT && r.refT))) ∧ Hid (Below w1.heap.size w1 wr'))
              (fun i _ => l1.len - (intOf i).toNat)
            case atStart => exact ⟨0, l1, by first | rfl | go_num, by omega, Lib.hid fun b o _ h => by rw [Nat.zero_mul]; exact h, E2, Lib.hid (Below.refl _ _)⟩
            case round =>
              clear E2
              obtain ⟨j, z, rfl, hj, hzat, E3, hB⟩ := hrel
              have x3 := HX3.out _ hB.out
              have hWr := hW.out.trans (hB.out.mono hW.out.size)
              have HWR := Lib.hid hWr
              have f5 := (hWr.cell (show b3 < w.heap.size by omega)).trans G5.out
              clear hWr
              cases z with
              | nil =>
                simp only [Tf.len] at hj
                have hge : ¬ j < l1.len := by omega
                go_wp2_with fail
                clear x3 f5
                have HX4 := Lib.hid (fun (w2 : World) (hb2 : Below wr.heap.size wr w2) => HX3.out _ (hB.out.trans (hb2.mono hB.out.size)))
                have E5 := Lib.hid (show l.refT = (s.refT && r.refT) by rw [E3.out]; simp [Tf.refBehind])
                clear E3 hzat HX3 hB
                go_loopw [7] (fun i wr' => ∃ (j : Nat) (z : Ts), i = .int .i64 j ∧ j + z.len = s.len ∧ z.size ≤ s.size ∧ Hid (s.At w N b3 o3 → z.At w N b3 (o3 + j)) ∧
                    Hid (l.refT = (z.refT && r.refT)) ∧ Hid (Below wr.heap.size wr wr'))
                  (fun i _ => s.len - (intOf i).toNat)
                case atStart => exact ⟨0, s, by first | rfl | go_num, by omega, Nat.le_refl _, Lib.hid fun h => h, E5, Lib.hid (Below.refl _ _)⟩
                case round =>
                  clear E5
                  obtain ⟨j, z, rfl, hj, hzs, hzat, E3, hB⟩ := hrel
                  have x3 := HX4.out _ hB.out
                  have HWS := Lib.hid (HWR.out.trans (hB.out.mono HWR.out.size))
                  cases z with
                  | nil =>
                    simp only [Ts.len] at hj
                    have hge : ¬ j < s.len := by omega
                    go_wp2_with fail
                    go_roundw
                    case rel => exact ⟨k + 1, r, by go_num, by omega, by omega, Lib.hid fun b' o' hbo _ => by cases hbo; exact At_stepT HQ.out, Lib.hid (by rw [E3.out]; simp [Ts.refT]), HWS⟩
                    case measure => simp [intOf]; omega
                  | sub l2 r2 =>
                    simp only [Ts.len] at hj
                    simp only [Ts.size] at hzs
                    have hlt3 : j < s.len := by omega
                    obtain ⟨⟨q4, c4, g4, s4⟩, hzz⟩ := hzat.out (by rcases S3.out.2 with h30 | ⟨b4, o4, hbo, hb4, ha3⟩; omega; cases hbo; exact ha3)
                    have f4 := (HWS.out.cell (show b3 < w.heap.size by omega)).trans g4
                    have HR := Lib.hid (IH.out l2 (by omega) q4 c4 N _ (s4.imp (Nat.le_refl _) fun b' o' hb' ha' => Tf.At.later (HWS.out.mono hN) (Nat.le_refl _) _ _ _ hb' ha') (Nat.le_trans hN HWS.out.size))
                    have HZ := Lib.hid hzz
                    have E4 := Lib.hid (show l.refT = (l2.refT && r2.refT && r.refT) by rw [E3.out]; rfl)
                    clear g4 s4 hzz E3
                    cases h2 : l2.refT with
                    | false =>
                      rw [h2] at HR E4
                      go_wp2_with (go_at_call 10; refine HR.out.mono ?_; rintro e w2 ⟨rfl, hB2⟩)
                      go_ret
                      exact ⟨ret_bool (by rw [E4.out]; simp), HWS.out.trans (hB2.mono HWS.out.size)⟩
                    | true =>
                      rw [h2] at HR E4
                      go_wp2_with (go_at_call 10; refine HR.out.mono ?_; rintro e w2 ⟨rfl, hB2⟩)
                      go_roundw
                      case rel => exact ⟨j + 1, r2, by go_num, by omega, by omega, Lib.hid fun _ => HZ.out, Lib.hid (by rw [E4.out]; simp), Lib.hid (hB.out.trans (hB2.mono hB.out.size))⟩
                      case measure => simp [intOf]; omega
              | node kz lz tz sz rz =>
                simp only [Tf.len] at hj
                have hlt3 : j < l1.len := by omega
                rcases S5.out.2 with h30 | ⟨b5, o5, rfl, hb5, ha5⟩
                · omega
                obtain ⟨i0, ⟨q5, c5, i1, t1⟩, i2, i3, hrz⟩ := hzat.out b5 o5 rfl ha5
                have f0 := (HWR.out.cell (show b5 < w.heap.size by omega)).trans i0
                have f1 := (HWR.out.cell (show b5 < w.heap.size by omega)).trans i1
                have HPf := Lib.hid (refPicks_false lz q5 c5 N _ (t1.imp (Nat.le_refl _) fun b' o' hb' ha' => Plines.later (HWR.out.mono hN) (Nat.le_refl _) _ _ _ hb' ha') (Nat.le_trans hN HWR.out.size))
                have HZ := Lib.hid hrz
                have E4 := Lib.hid (show l.refT = ((kz == 2 && refPicks false lz && rz.refBehind) && (s.refT && r.refT)) by rw [E3.out]; rfl)
                clear i0 i1 i2 i3 t1 hrz ha5 E3
                cases hk2 : kz == 2 with
                | false =>
                  rw [hk2] at E4
                  have hk3 := congrArg (!·) hk2
                  simp only [Bool.not_true, Bool.not_false] at hk3
                  have hk4 : (kz != 2) = _ := hk3
                  go_wp2_with fail
                  go_ret
                  exact ⟨ret_bool (by rw [E4.out]; simp), HWR.out⟩
                | true =>
                  rw [hk2] at E4
                  have hk3 := congrArg (!·) hk2
                  simp only [Bool.not_true, Bool.not_false] at hk3
                  have hk4 : (kz != 2) = _ := hk3
                  cases hp2 : refPicks false lz with
                  | false =>
                    rw [hp2] at HPf E4
                    go_wp2_with (go_at_call 27; refine HPf.out.mono ?_; rintro e w2 ⟨rfl, hB2⟩)
                    go_ret
                    exact ⟨ret_bool (by rw [E4.out]; simp), HWR.out.trans (hB2.mono HWR.out.size)⟩
                  | true =>
                    rw [hp2] at HPf E4
                    go_wp2_with (go_at_call 27; refine HPf.out.mono ?_; rintro e w2 ⟨rfl, hB2⟩)
                    go_roundw
                    case rel => exact ⟨j + 1, rz, by go_num, by omega, Lib.hid fun b' o' hbo _ => by cases hbo; exact At_stepT HZ.out, Lib.hid (by rw [E4.out]; simp), Lib.hid (hB.out.trans (hB2.mono hB.out.size))⟩
                    case measure => simp [intOf]; omega
          · have E2 := Lib.hid (show l.refT = (s.refT && r.refT) by rw [E1.out, show (kd != 7) = true by simpa using h7]; simp)
            clear E1
            rcases hcase with ⟨hk1, hn1⟩ | ⟨hk1, hn1⟩ | ⟨hk1, hn1⟩ | hk1 | ⟨hk1, hn1⟩
            · rcases hk1 with rfl | rfl | rfl
              all_goals
                clear h7
                go_wp2_with (go_at_call 27; refine (HP.out _ (hBal.out _)).mono ?_; rintro e w1 ⟨rfl, hB1⟩; obtain ⟨x0, x3⟩ := HX.out _ _ hB1)
                have hW := Lib.hid ((hBal.out _).trans (hB1.mono (by simp; omega)))
                have hsz1 := hB1.size
                have HZ0 := Lib.hid (show s = .nil by cases s with | nil => rfl | sub => simp [Ts.len] at hn1)
                clear hBal HP HX hPk f1 f2 HF3 hB1 x0 hB hsz1
                go_loopw [7] (fun i wr' => i = .int .i64 0 ∧ wr' = w1) (fun i _ => 0)
                case atStart => exact ⟨rfl, rfl⟩
                case round =>
                  obtain ⟨rfl, rfl⟩ := hrel
                  go_wp2_with fail
                  go_roundw
                  case rel => exact ⟨k + 1, r, by go_num, by omega, by omega, Lib.hid fun b' o' hbo _ => by cases hbo; exact At_stepT HQ.out, Lib.hid (by rw [E2.out, HZ0.out]; simp [Ts.refT]), hW⟩
                  case measure => simp [intOf]; omega
            · rcases hk1 with rfl | rfl | rfl
              all_goals
                clear h7
                go_wp2_with (go_at_call 27; refine (HP.out _ (hBal.out _)).mono ?_; rintro e w1 ⟨rfl, hB1⟩; obtain ⟨x0, x3⟩ := HX.out _ _ hB1)
                have hW := Lib.hid ((hBal.out _).trans (hB1.mono (by simp; omega)))
                have hsz1 := hB1.size
                have HX3 := Lib.hid (fun (w2 : World) (hb2 : Below w1.heap.size w1 w2) => (hb2.cell (show wr.heap.size < w1.heap.size by simp at hsz1; omega)).trans x3)
                clear hBal HP HX hPk f1 f2 HF3 hB1 x0 x3 hB hsz1
                go_loopw [7] (fun i wr' => ∃ (j : Nat) (z : Ts), i = .int .i64 j ∧ j + z.len = s.len ∧ z.size ≤ s.size ∧ Hid (∀ b o, q3 = some ⟨b, o, none⟩ → s.At w N b o → z.At w N b (o + j)) ∧
                    Hid (l.refT = (z.refT && r.refT)) ∧ Hid (Below w1.heap.size w1 wr'))
                  (fun i _ => s.len - (intOf i).toNat)
                case atStart => exact ⟨0, s, by first | rfl | go_num, by omega, Nat.le_refl _, Lib.hid fun b o _ h => h, E2, Lib.hid (Below.refl _ _)⟩
                case round =>
                  clear E2
                  obtain ⟨j, z, rfl, hj, hzs, hzat, E3, hB⟩ := hrel
                  have x3 := HX3.out _ hB.out
                  have hWr := hW.out.trans (hB.out.mono hW.out.size)
                  have HWR := Lib.hid hWr
                  clear hWr
                  cases z with
                  | nil =>
                    simp only [Ts.len] at hj
                    have hge : ¬ j < s.len := by omega
                    go_wp2_with fail
                    go_roundw
                    case rel => exact ⟨k + 1, r, by go_num, by omega, by omega, Lib.hid fun b' o' hbo _ => by cases hbo; exact At_stepT HQ.out, Lib.hid (by rw [E3.out]; simp [Ts.refT]), HWR⟩
                    case measure => simp [intOf]; omega
                  | sub l2 r2 =>
                    simp only [Ts.len] at hj
                    simp only [Ts.size] at hzs
                    have hlt3 : j < s.len := by omega
                    rcases S3.out.2 with h30 | ⟨b3, o3, rfl, hb3, ha3⟩
                    · omega
                    obtain ⟨⟨q4, c4, g4, s4⟩, hzz⟩ := hzat.out b3 o3 rfl ha3
                    have f4 := (HWR.out.cell (show b3 < w.heap.size by omega)).trans g4
                    have HR := Lib.hid (IH.out l2 (by omega) q4 c4 N _ (s4.imp (Nat.le_refl _) fun b' o' hb' ha' => Tf.At.later (HWR.out.mono hN) (Nat.le_refl _) _ _ _ hb' ha') (Nat.le_trans hN HWR.out.size))
                    have HZ := Lib.hid hzz
                    have E4 := Lib.hid (show l.refT = (l2.refT && r2.refT && r.refT) by rw [E3.out]; rfl)
                    clear g4 s4 hzz ha3 E3
                    cases h2 : l2.refT with
                    | false =>
                      rw [h2] at HR E4
                      go_wp2_with (go_at_call 10; refine HR.out.mono ?_; rintro e w2 ⟨rfl, hB2⟩)
                      go_ret
                      exact ⟨ret_bool (by rw [E4.out]; simp), HWR.out.trans (hB2.mono HWR.out.size)⟩
                    | true =>
                      rw [h2] at HR E4
                      go_wp2_with (go_at_call 10; refine HR.out.mono ?_; rintro e w2 ⟨rfl, hB2⟩)
                      go_roundw
                      case rel => exact ⟨j + 1, r2, by go_num, by omega, by omega, Lib.hid fun b' o' hbo _ => by cases hbo; exact HZ.out, Lib.hid (by rw [E4.out]; simp), Lib.hid (hB.out.trans (hB2.mono hB.out.size))⟩
                      case measure => simp [intOf]; omega
            · subst hk1
              clear h7
              go_wp2_with (go_at_call 27; refine (HP.out _ (hBal.out _)).mono ?_; rintro e w1 ⟨rfl, hB1⟩; obtain ⟨x0, x3⟩ := HX.out _ _ hB1)
              have hW := Lib.hid ((hBal.out _).trans (hB1.mono (by simp; omega)))
              have hsz1 := hB1.size
              have HX3 := Lib.hid (fun (w2 : World) (hb2 : Below w1.heap.size w1 w2) => (hb2.cell (show wr.heap.size < w1.heap.size by simp at hsz1; omega)).trans x3)
              clear hBal HP HX hPk f1 f2 HF3 hB1 x0 x3 hB hsz1
              go_loopw [7] (fun i wr' => ∃ (j : Nat) (z : Ts), i = .int .i64 j ∧ j + z.len = s.len ∧ z.size ≤ s.size ∧ Hid (∀ b o, q3 = some ⟨b, o, none⟩ → s.At w N b o → z.At w N b (o + j)) ∧
                  Hid (l.refT = (z.refT && r.refT)) ∧ Hid (Below w1.heap.size w1 wr'))
                (fun i _ => s.len - (intOf i).toNat)
              case atStart => exact ⟨0, s, by first | rfl | go_num, by omega, Nat.le_refl _, Lib.hid fun b o _ h => h, E2, Lib.hid (Below.refl _ _)⟩
              case round =>
                clear E2
                obtain ⟨j, z, rfl, hj, hzs, hzat, E3, hB⟩ := hrel
                have x3 := HX3.out _ hB.out
                have hWr := hW.out.trans (hB.out.mono hW.out.size)
                have HWR := Lib.hid hWr
                clear hWr
                cases z with
                | nil =>
                  simp only [Ts.len] at hj
                  have hge : ¬ j < s.len := by omega
                  go_wp2_with fail
                  go_roundw
                  case rel => exact ⟨k + 1, r, by go_num, by omega, by omega, Lib.hid fun b' o' hbo _ => by cases hbo; exact At_stepT HQ.out, Lib.hid (by rw [E3.out]; simp [Ts.refT]), HWR⟩
                  case measure => simp [intOf]; omega
                | sub l2 r2 =>
                  simp only [Ts.len] at hj
                  simp only [Ts.size] at hzs
                  have hlt3 : j < s.len := by omega
                  rcases S3.out.2 with h30 | ⟨b3, o3, rfl, hb3, ha3⟩
                  · omega
                  obtain ⟨⟨q4, c4, g4, s4⟩, hzz⟩ := hzat.out b3 o3 rfl ha3
                  have f4 := (HWR.out.cell (show b3 < w.heap.size by omega)).trans g4
                  have HR := Lib.hid (IH.out l2 (by omega) q4 c4 N _ (s4.imp (Nat.le_refl _) fun b' o' hb' ha' => Tf.At.later (HWR.out.mono hN) (Nat.le_refl _) _ _ _ hb' ha') (Nat.le_trans hN HWR.out.size))
                  have HZ := Lib.hid hzz
                  have E4 := Lib.hid (show l.refT = (l2.refT && r2.refT && r.refT) by rw [E3.out]; rfl)
                  clear g4 s4 hzz ha3 E3
                  cases h2 : l2.refT with
                  | false =>
                    rw [h2] at HR E4
                    go_wp2_with (go_at_call 10; refine HR.out.mono ?_; rintro e w2 ⟨rfl, hB2⟩)
                    go_ret
                    exact ⟨ret_bool (by rw [E4.out]; simp), HWR.out.trans (hB2.mono HWR.out.size)⟩
                  | true =>
                    rw [h2] at HR E4
                    go_wp2_with (go_at_call 10; refine HR.out.mono ?_; rintro e w2 ⟨rfl, hB2⟩)
                    go_roundw
                    case rel => exact ⟨j + 1, r2, by go_num, by omega, by omega, Lib.hid fun b' o' hbo _ => by cases hbo; exact HZ.out, Lib.hid (by rw [E4.out]; simp), Lib.hid (hB.out.trans (hB2.mono hB.out.size))⟩
                    case measure => simp [intOf]; omega
            · subst hk1
              clear h7
              go_wp2_with (go_at_call 27; refine (HP.out _ (hBal.out _)).mono ?_; rintro e w1 ⟨rfl, hB1⟩; obtain ⟨x0, x3⟩ := HX.out _ _ hB1)
              have hW := Lib.hid ((hBal.out _).trans (hB1.mono (by simp; omega)))
              have hsz1 := hB1.size
              have HX3 := Lib.hid (fun (w2 : World) (hb2 : Below w1.heap.size w1 w2) => (hb2.cell (show wr.heap.size < w1.heap.size by simp at hsz1; omega)).trans x3)
              clear hBal HP HX hPk f1 f2 HF3 hB1 x0 x3 hB hsz1
              go_loopw [7] (fun i wr' => ∃ (j : Nat) (z : Ts), i = .int .i64 j ∧ j + z.len = s.len ∧ z.size ≤ s.size ∧ Hid (∀ b o, q3 = some ⟨b, o, none⟩ → s.At w N b o → z.At w N b (o + j)) ∧
                  Hid (l.refT = (z.refT && r.refT)) ∧ Hid (Below w1.heap.size w1 wr'))
                (fun i _ => s.len - (intOf i).toNat)
              case atStart => exact ⟨0, s, by first | rfl | go_num, by omega, Nat.le_refl _, Lib.hid fun b o _ h => h, E2, Lib.hid (Below.refl _ _)⟩
              case round =>
                clear E2
                obtain ⟨j, z, rfl, hj, hzs, hzat, E3, hB⟩ := hrel
                have x3 := HX3.out _ hB.out
                have hWr := hW.out.trans (hB.out.mono hW.out.size)
                have HWR := Lib.hid hWr
                clear hWr
                cases z with
                | nil =>
                  simp only [Ts.len] at hj
                  have hge : ¬ j < s.len := by omega
                  go_wp2_with fail
                  go_roundw
                  case rel => exact ⟨k + 1, r, by go_num, by omega, by omega, Lib.hid fun b' o' hbo _ => by cases hbo; exact At_stepT HQ.out, Lib.hid (by rw [E3.out]; simp [Ts.refT]), HWR⟩
                  case measure => simp [intOf]; omega
                | sub l2 r2 =>
                  simp only [Ts.len] at hj
                  simp only [Ts.size] at hzs
                  have hlt3 : j < s.len := by omega
                  rcases S3.out.2 with h30 | ⟨b3, o3, rfl, hb3, ha3⟩
                  · omega
                  obtain ⟨⟨q4, c4, g4, s4⟩, hzz⟩ := hzat.out b3 o3 rfl ha3
                  have f4 := (HWR.out.cell (show b3 < w.heap.size by omega)).trans g4
                  have HR := Lib.hid (IH.out l2 (by omega) q4 c4 N _ (s4.imp (Nat.le_refl _) fun b' o' hb' ha' => Tf.At.later (HWR.out.mono hN) (Nat.le_refl _) _ _ _ hb' ha') (Nat.le_trans hN HWR.out.size))
                  have HZ := Lib.hid hzz
                  have E4 := Lib.hid (show l.refT = (l2.refT && r2.refT && r.refT) by rw [E3.out]; rfl)
                  clear g4 s4 hzz ha3 E3
                  cases h2 : l2.refT with
                  | false =>
                    rw [h2] at HR E4
                    go_wp2_with (go_at_call 10; refine HR.out.mono ?_; rintro e w2 ⟨rfl, hB2⟩)
                    go_ret
                    exact ⟨ret_bool (by rw [E4.out]; simp), HWR.out.trans (hB2.mono HWR.out.size)⟩
                  | true =>
                    rw [h2] at HR E4
                    go_wp2_with (go_at_call 10; refine HR.out.mono ?_; rintro e w2 ⟨rfl, hB2⟩)
                    go_roundw
                    case rel => exact ⟨j + 1, r2, by go_num, by omega, by omega, Lib.hid fun b' o' hbo _ => by cases hbo; exact HZ.out, Lib.hid (by rw [E4.out]; simp), Lib.hid (hB.out.trans (hB2.mono hB.out.size))⟩
                    case measure => simp [intOf]; omega
            · exact absurd hk1 h7

theorem ref_to : ∀ n, RefTo n
  | 0 => fun _ h => absurd h (Nat.not_lt_zero _)
  | n + 1 => ref_step n (ref_to n)
theorem refTerms_any (l : Tf) (p : Option Addr) (cap N : Nat) (w : World) (h : l.In w N p) (hN : N ≤ w.heap.size) :
    Calls Try.prog 10 #[.slice p l.len cap] w fun e w' => e = .returned (.bool l.refT) ∧ Below w.heap.size w w' :=
  ref_to _ l (Nat.lt_succ_self _) p cap N w h hN
end Go.Proofs.Ytaaglgchfhimaaa
