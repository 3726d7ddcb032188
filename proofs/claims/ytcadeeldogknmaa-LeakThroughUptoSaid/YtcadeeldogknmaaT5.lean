/- T4, T5 as one. -/
import Derived.Test.YtcadeeldogknmaaT3
/- May terms stand behind a call; has a term as many lists as its kind has? -/
namespace Go.Proofs.Ytcadeeldogknmaa
open Go.RowKit

def Tf.behind : Tf → Bool
  | .nil => true
  | .node k ls _ _ r => k == 2 && decide (greatestL ls < 0) && r.behind
def Ts.second : Ts → Tf
  | .sub _ (.sub l _) => l
  | _ => .nil
def subsOk (k : Int) (ns : Nat) (bh : Bool) : Bool :=
  if k = 6 then true
  else if k = 1 ∨ k = 2 ∨ k = 8 then ns == 0
  else if k = 4 ∨ k = 5 ∨ k = 9 then ns == 1
  else if k = 7 then ns == 2 && bh
  else if k = 3 then ns == 2
  else false
theorem At_stepT {N b o k : Nat} {r : Tf} {w : World} (h : r.At w N b (o + k * 4 + 4)) : r.At w N b (o + (k + 1) * 4) := by
  rw [show o + (k + 1) * 4 = o + k * 4 + 4 by omega]; exact h

set_option maxHeartbeats 1600000 in
theorem behind_any (l : Tf) (p : Option Addr) (cap N : Nat) (w : World) (h : l.In w N p) (hN : N ≤ w.heap.size) :
    Calls Try.prog 56 #[.slice p l.len cap] w fun e w' => e = .returned (.bool l.behind) ∧ Below w.heap.size w w' := by
  have S0 := Lib.hid h
  have hm := h.1
  clear h
  go_enter Try.func56, Try.ntmps56
  go_wp2_with fail
  go_loopw [6] (fun i wr => ∃ (k : Nat) (r : Tf), i = .int .i64 k ∧ k + r.len = l.len ∧ Hid (∀ b o, p = some ⟨b, o, none⟩ → l.At w N b o → r.At w N b (o + k * 4)) ∧ Hid (l.behind = r.behind) ∧ Hid (Below w.heap.size w wr))
    (fun i _ => l.len - (intOf i).toNat)
  case atStart => exact ⟨0, l, rfl, by omega, Lib.hid fun b o _ h => by rw [Nat.zero_mul]; exact h, Lib.hid rfl, Lib.hid (Below.refl _ _)⟩
  case round =>
    obtain ⟨k, r, rfl, hk, hat, E, hB⟩ := hrel
    cases r with
    | nil =>
      simp only [Tf.len] at hk
      have hge : ¬ k < l.len := by omega
      go_wp2_with fail
      go_ret
      exact ⟨ret_bool (by rw [E.out]; rfl), hB.out⟩
    | node kd ls t s r =>
      simp only [Tf.len] at hk
      have hlt : k < l.len := by omega
      rcases S0.out.2 with h30 | ⟨b, o, rfl, hb, ha⟩
      · omega
      obtain ⟨g0, ⟨q, cq, g1, s1⟩, g2, ⟨q3, d, g3, s3⟩, hr⟩ := hat.out b o rfl ha
      have f0 := (hB.out.cell (show b < w.heap.size by omega)).trans g0
      have f1 := (hB.out.cell (show b < w.heap.size by omega)).trans g1
      have HG := Lib.hid (greatest_any ls q cq N wr (s1.imp (Nat.le_refl _) fun b' o' hb' ha' => Plines.later (hB.out.mono hN) (Nat.le_refl _) _ _ _ hb' ha') (Nat.le_trans hN hB.out.size))
      have E1 := Lib.hid (show l.behind = (kd == 2 && decide (greatestL ls < 0) && r.behind) by rw [E.out]; rfl)
      have HQ := Lib.hid hr
      clear g0 g1 g2 g3 s1 s3 hr ha
      go_wp2_with (go_at_call 60; refine HG.out.mono ?_; rintro e w1 ⟨rfl, hB1⟩)
      · go_ret
        exact ⟨ret_bool (by rw [E1.out, decide_eq_false (by omega)]; simp), hB.out.trans (hB1.mono hB.out.size)⟩
      · go_roundw
        case rel => exact ⟨k + 1, r, by go_num, by omega, Lib.hid fun b' o' hbo _ => by cases hbo; exact At_stepT HQ.out, Lib.hid (by rw [E1.out, decide_eq_true (by omega)]; simp [*]), Lib.hid (hB.out.trans (hB1.mono hB.out.size))⟩
        case measure => simp [intOf]; omega
      · have hk2 : ¬ kd = 2 := by assumption
        go_ret
        exact ⟨ret_bool (by rw [E1.out]; simp [hk2]), hB.out⟩

set_option maxHeartbeats 1600000 in
theorem hasSubs_any (k : Int) (s : Ts) (q : Option Addr) (d b o N : Nat) (w : World) (hN : N ≤ w.heap.size)
    (h0 : w.cell? ⟨b, o, none⟩ = some (.int .i64 k)) (h3 : w.cell? ⟨b, o + 3, none⟩ = some (.slice q s.len d)) (h : s.In w N q) :
    Calls Try.prog 34 #[.pointer (some ⟨b, o, none⟩)] w fun e w' => e = .returned (.bool (subsOk k s.len s.second.behind)) ∧ Below w.heap.size w w' := by
  by_cases h7 : k = 7 ∧ s.len = 2
  · obtain ⟨rfl, hs⟩ := h7
    obtain ⟨l0, l1, rfl⟩ : ∃ l0 l1, s = .sub l0 (.sub l1 .nil) := by
      cases s with
      | nil => simp [Ts.len] at hs
      | sub l0 r0 => cases r0 with
        | nil => simp [Ts.len] at hs
        | sub l1 r1 => cases r1 with | nil => exact ⟨l0, l1, rfl⟩ | sub => simp [Ts.len] at hs
    rcases h.2 with h30 | ⟨b3, o3, rfl, hb3, ha3⟩
    · omega
    obtain ⟨_, ⟨p1, c1, g5, s5⟩, _⟩ := ha3
    have HA := Lib.hid (behind_any l1 p1 c1 N w s5 hN)
    have E5 := Lib.hid (show subsOk 7 (Ts.sub l0 (.sub l1 .nil)).len (Ts.sub l0 (.sub l1 .nil)).second.behind = l1.behind by simp [subsOk, Ts.len, Ts.second])
    have E6 := Lib.hid hs
    rw [hs] at h3
    have hbl : b < w.heap.size := World.block_lt_of_cell? _ _ h0
    clear s5 hs h
    cases h5 : l1.behind with
    | false =>
      rw [h5] at HA E5
      rw [E5.out]
      go_enter Try.func34, Try.ntmps34
      go_wp2_with (go_at_call 56; refine HA.out.mono ?_; rintro e w1 ⟨rfl, hB1⟩)
      go_ret
      exact ⟨rfl, hB1⟩
    | true =>
      rw [h5] at HA E5
      rw [E5.out]
      go_enter Try.func34, Try.ntmps34
      go_wp2_with (go_at_call 56; refine HA.out.mono ?_; rintro e w1 ⟨rfl, hB1⟩; have h3 := (hB1.cell hbl).trans h3)
      go_ret
      exact ⟨rfl, hB1⟩
  · obtain ⟨n, hn⟩ : ∃ n, n = s.len := ⟨_, rfl⟩
    rw [← hn] at h3 h7 ⊢
    have H7 := Lib.hid h7
    generalize s.second.behind = bh
    have hB0 := Lib.hid (Below.refl w.heap.size w)
    have hnk : k = 7 → ¬ n = 2 := fun h e => h7 ⟨h, e⟩
    clear h hn
    by_cases hk7 : k = 7
    · subst hk7
      have hn2 := hnk rfl
      have hn2' : ((n : Int) != 2) = true := by simp; omega
      clear h7 hnk
      go_enter Try.func34, Try.ntmps34
      go_wp2_with fail
      go_ret
      exact ⟨ret_bool (by simp [subsOk, hn2]), hB0.out⟩
    · have hk7' : (k == 7) = false := beq_eq_false_iff_ne.2 hk7
      clear h7 hnk
      go_enter Try.func34, Try.ntmps34
      go_wp2_with fail
      all_goals go_ret
      all_goals refine ⟨ret_bool ?_, hB0.out⟩
      all_goals (apply bool_of; simp_all [subsOk]; try omega)
end Go.Proofs.Ytcadeeldogknmaa
/- May a list of terms be: the closure, for terms that are not deep or many. -/
namespace Go.Proofs.Ytcadeeldogknmaa
open Go.RowKit

mutual
def Tf.okT : Tf → Bool
  | .nil => true
  | .node k ls _ s r => subsOk k s.len s.second.behind && picksOk ls && s.okT && r.okT
def Ts.okT : Ts → Bool
  | .nil => true
  | .sub l r => l.okT && r.okT
end
mutual
def Tf.under : Tf → Nat
  | .nil => 0
  | .node _ _ _ s r => s.nodes + r.under
def Ts.nodes : Ts → Nat
  | .nil => 0
  | .sub l r => l.len + l.under + r.nodes
end
mutual
def Tf.deep : Tf → Nat
  | .nil => 0
  | .node _ _ _ s r => max (1 + s.deep) r.deep
def Ts.deep : Ts → Nat
  | .nil => 0
  | .sub l r => max l.deep r.deep
end
def mayFn (cl cm : Nat) : Value := .func (Fn.func 33) #[] #[.pointer (some ⟨cl, 0, none⟩), .pointer (some ⟨cm, 0, none⟩)]
structure TK (cl cm : Nat) (w wr : World) (x : Int) : Prop where
  bel : Below cl w wr
  cell : wr.cell? ⟨cl, 0, none⟩ = some (.int .i64 x)
  fz : wr.frozen? ⟨cl, 0, none⟩ = false
  may : wr.cell? ⟨cm, 0, none⟩ = some (.func (Fn.func 33) #[] #[.pointer (some ⟨cl, 0, none⟩), .pointer (some ⟨cm, 0, none⟩)])
theorem TK.lt {cl cm : Nat} {w wr : World} {x : Int} (h : TK cl cm w wr x) : cl < wr.heap.size ∧ cm < wr.heap.size := ⟨World.block_lt_of_cell? _ _ h.cell, World.block_lt_of_cell? _ _ h.may⟩
theorem TK.on {cl cm : Nat} {w wr w' : World} {x : Int} (h : TK cl cm w wr x) (hb : Below wr.heap.size wr w') : TK cl cm w w' x :=
  ⟨h.bel.trans (hb.mono (Nat.le_of_lt h.lt.1)), (hb.cell h.lt.1).trans h.cell, (hb.frozen h.lt.1).trans h.fz, (hb.cell h.lt.2).trans h.may⟩
theorem TK.set {cl cm : Nat} {w wr : World} {x : Int} (h : TK cl cm w wr x) (hne : cl ≠ cm) (y : Int) : TK cl cm w (wr.setCell ⟨cl, 0, none⟩ (.int .i64 y)) y :=
  ⟨h.bel.setCell (Nat.le_refl _) _, World.cell?_setCell_same _ _ _ h.cell, by simpa using h.fz, (World.cell?_setCell_other _ _ _ _ (by intro e; injection e with e1; exact hne e1)).trans h.may⟩
theorem TK.onto {cl cm : Nat} {w wr w' : World} {x y : Int} (h : TK cl cm w wr x) (k : TK cl cm wr w' y) : TK cl cm w w' y := ⟨h.bel.trans k.bel, k.cell, k.fz, k.may⟩
theorem TK.self {cl cm : Nat} {w wr : World} {x : Int} (h : TK cl cm w wr x) : TK cl cm wr wr x := ⟨Below.refl _ _, h.cell, h.fz, h.may⟩

def TermsTo (n : Nat) : Prop := ∀ (l : Tf), l.size < n → ∀ (p : Option Addr) (cap N cl cm deep : Nat) (left : Int) (w : World), l.In w N p → N ≤ cl → cl ≠ cm → deep + l.deep ≤ 513 → ((l.len + l.under : Nat) : Int) ≤ left → left ≤ 1000000 → TK cl cm w w left →
    Calls Try.prog 33 #[.slice p l.len cap, .int .i64 deep, .pointer (some ⟨cl, 0, none⟩), .pointer (some ⟨cm, 0, none⟩)] w fun e w' =>
      e = .returned (.bool l.okT) ∧ Below cl w w' ∧ (l.okT = true → TK cl cm w w' (left - ((l.len + l.under : Nat) : Int)))

set_option maxHeartbeats 3200000 in
theorem terms_step (n : Nat) (ih : TermsTo n) : TermsTo (n + 1) := by
  intro l hsz p cap N cl cm deep left w h hNc hne hdp hlf hl1 hk
  have IH := Lib.hid ih
  clear ih
  have S0 := Lib.hid h
  have hm := h.1
  have hc := hk.cell
  have hz := hk.fz
  have hnl : ¬ ((l.len : Int) > left) := by omega
  have hdd : ¬ (0 < l.len ∧ 512 < deep) := by
    rintro ⟨h1, h2⟩
    cases l with
    | nil => simp [Tf.len] at h1
    | node => simp only [Tf.deep] at hdp; omega
  have HK := Lib.hid hk
  clear h hk
  go_enter Try.func33, Try.ntmps33
  go_wp2_with fail
  · clear hc hz
    go_loopw [29] (fun i wr => ∃ (k : Nat) (r : Tf) (x : Int), i = .int .i64 k ∧ k + r.len = l.len ∧ r.size ≤ n ∧ deep + r.deep ≤ 513 ∧ Hid (∀ b o, p = some ⟨b, o, none⟩ → l.At w N b o → r.At w N b (o + k * 4)) ∧ Hid (l.okT = r.okT) ∧
        Hid (x - r.under = left - ((l.len + l.under : Nat) : Int)) ∧ Hid ((r.under : Int) ≤ x) ∧ x ≤ 1000000 ∧ Hid (TK cl cm w wr x))
      (fun i _ => l.len - (intOf i).toNat)
    case atStart => exact ⟨0, l, left - l.len, rfl, by omega, by omega, hdp, Lib.hid fun b o _ h => by rw [Nat.zero_mul]; exact h, Lib.hid rfl, Lib.hid (by omega), Lib.hid (by omega), by omega, Lib.hid (HK.out.set hne _)⟩
    case round =>
      obtain ⟨k, r, x, rfl, hk, hrs, hrd, hat, E, EX, hux, hx1, hT⟩ := hrel
      cases r with
      | nil =>
        simp only [Tf.len] at hk
        have hge : ¬ k < l.len := by omega
        have HB := Lib.hid (show l.okT = true ∧ TK cl cm w wr (left - ((l.len + l.under : Nat) : Int)) from ⟨by rw [E.out]; rfl, by have h1 := EX.out; simp only [Tf.under] at h1; rw [← h1]; simpa using hT.out⟩)
        go_wp2_with fail
        go_ret
        exact ⟨ret_bool HB.out.1.symm, hT.out.bel, fun _ => HB.out.2⟩
      | node kd ls t s r =>
        simp only [Tf.len] at hk
        simp only [Tf.size] at hrs
        simp only [Tf.deep] at hrd
        have hlt : k < l.len := by omega
        rcases S0.out.2 with h30 | ⟨b, o, rfl, hb, ha⟩
        · omega
        obtain ⟨g0, ⟨q, cq, g1, s1⟩, g2, ⟨q3, d, g3, s3⟩, hr⟩ := hat.out b o rfl ha
        have hbel := hT.out.bel
        have hclt := hT.out.lt
        have f0 := (hbel.cell (show b < cl by omega)).trans g0
        have f1 := (hbel.cell (show b < cl by omega)).trans g1
        have f3 := (hbel.cell (show b < cl by omega)).trans g3
        have hNs : N ≤ wr.heap.size := by omega
        have HH := Lib.hid (hasSubs_any kd s q3 d b (o + k * 4) N wr hNs f0 f3 (s3.imp (Nat.le_refl _) fun b' o' hb' ha' => Ts.At.later (hbel.mono hNc) (Nat.le_refl _) _ _ _ hb' ha'))
        have HA := Lib.hid (fun (w1 : World) (hB : Below wr.heap.size wr w1) => arePicks_any ls q cq N w1 (s1.imp (Nat.le_refl _) fun b' o' hb' ha' => Plines.later ((hbel.mono hNc).trans (hB.mono hNs)) (Nat.le_refl _) _ _ _ hb' ha') (Nat.le_trans hNs hB.size))
        have E1 := Lib.hid (show l.okT = (subsOk kd s.len s.second.behind && picksOk ls && s.okT && r.okT) by rw [E.out]; rfl)
        have HF := Lib.hid (fun (w1 : World) (hB : Below wr.heap.size wr w1) => (hB.cell (show b < wr.heap.size by omega)).trans f1)
        have HF3 := Lib.hid (fun (w1 : World) (hB : Below wr.heap.size wr w1) => (hB.cell (show b < wr.heap.size by omega)).trans f3)
        have HQ := Lib.hid hr
        have S3 := Lib.hid s3
        have hm3 := s3.1
        clear g0 g1 g2 g3 s1 s3 hr f0 f1 f3 hbel E ha
        cases hS : subsOk kd s.len s.second.behind with
        | false =>
          rw [hS] at HH E1
          have HB := Lib.hid (show l.okT = false by rw [E1.out]; simp)
          go_wp2_with (go_at_call 34; refine HH.out.mono ?_; rintro e w1 ⟨rfl, hB⟩)
          go_ret
          exact ⟨ret_bool HB.out.symm, (hT.out.on hB).bel, fun h => by rw [HB.out] at h; cases h⟩
        | true =>
          rw [hS] at HH E1
          cases hP : picksOk ls with
          | false =>
            rw [hP] at HA E1
            have HB := Lib.hid (show l.okT = false by rw [E1.out]; simp)
            go_wp2_with (first | (go_at_call 34; refine HH.out.mono ?_; rintro e w1 ⟨rfl, hB⟩; have f1 := HF.out _ hB) | (go_at_call 35; refine (HA.out _ hB).mono ?_; rintro e w2 ⟨rfl, hB2⟩))
            go_ret
            exact ⟨ret_bool HB.out.symm, ((hT.out.on hB).on hB2).bel, fun h => by rw [HB.out] at h; cases h⟩
          | true =>
            rw [hP] at HA E1
            go_wp2_with (first | (go_at_call 34; refine HH.out.mono ?_; rintro e w1 ⟨rfl, hB⟩; have f1 := HF.out _ hB) | (go_at_call 35; refine (HA.out _ hB).mono ?_; rintro e w2 ⟨rfl, hB2⟩; have f3 := HF3.out _ (hB.trans (hB2.mono hB.size))))
            have hT2 := Lib.hid ((hT.out.on hB).on hB2)
            have E2 := Lib.hid (show l.okT = (s.okT && r.okT) by rw [E1.out]; simp)
            have HU := Lib.hid (show (x - s.nodes) - r.under = left - ((l.len + l.under : Nat) : Int) ∧ ((s.nodes + r.under : Nat) : Int) ≤ x from by
              have h1 := EX.out; have h2 := hux.out; simp only [Tf.under] at h1 h2; omega)
            clear hB hB2 HF HF3 HH HA E1 hT EX hux hclt
            go_loopw [52] (fun i wr' => ∃ (j : Nat) (z : Ts) (y : Int), i = .int .i64 j ∧ j + z.len = s.len ∧ z.size ≤ s.size ∧ deep + 1 + z.deep ≤ 513 ∧ Hid (∀ b o, q3 = some ⟨b, o, none⟩ → s.At w N b o → z.At w N b (o + j)) ∧
                Hid (l.okT = (z.okT && r.okT)) ∧ Hid ((y - z.nodes) - r.under = left - ((l.len + l.under : Nat) : Int) ∧ ((z.nodes + r.under : Nat) : Int) ≤ y) ∧ y ≤ 1000000 ∧ Hid (TK cl cm w wr' y))
              (fun i _ => s.len - (intOf i).toNat)
            case atStart => exact ⟨0, s, x, rfl, by omega, Nat.le_refl _, by omega, Lib.hid fun b o _ h => h, E2, HU, hx1, hT2⟩
            case round =>
              clear hT2 HU E2
              obtain ⟨j, z, y, rfl, hj, hzs, hzd, hzat, E3, EY, hy1, hT⟩ := hrel
              cases z with
              | nil =>
                simp only [Ts.len] at hj
                have hge : ¬ j < s.len := by omega
                go_wp2_with fail
                go_roundw
                case rel => exact ⟨k + 1, r, y, by go_num, by omega, by omega, by omega, Lib.hid fun b' o' hbo _ => by cases hbo; exact At_stepT HQ.out, Lib.hid (by rw [E3.out]; simp [Ts.okT]), Lib.hid (by have h := EY.out.1; simp only [Ts.nodes] at h; omega), Lib.hid (by have h := EY.out.2; simp only [Ts.nodes] at h; omega), hy1, hT⟩
                case measure => simp [intOf]; omega
              | sub l2 r2 =>
                rcases S3.out.2 with h30 | ⟨b3, o3, rfl, hb3, ha3⟩
                · simp only [Ts.len] at hj; omega
                obtain ⟨⟨q4, c4, g4, s4⟩, hzz⟩ := hzat.out b3 o3 rfl ha3
                simp only [Ts.len] at hj
                simp only [Ts.size] at hzs
                simp only [Ts.deep] at hzd
                have hlt3 : j < s.len := by omega
                have hbel := hT.out.bel
                have f4 := (hbel.cell (show b3 < cl by omega)).trans g4
                have fm := hT.out.may
                have hEY := EY.out
                simp only [Ts.nodes] at hEY
                have HR := Lib.hid (IH.out l2 (by omega) q4 c4 N cl cm (deep + 1) y _ (s4.imp (Nat.le_refl _) fun b' o' hb' ha' => Tf.At.later (hbel.mono hNc) (Nat.le_refl _) _ _ _ hb' ha') hNc hne (by omega) (by omega) hy1 hT.out.self)
                have HZ := Lib.hid hzz
                have E4 := Lib.hid (show l.okT = (l2.okT && r2.okT && r.okT) by rw [E3.out]; rfl)
                have HE := Lib.hid hEY
                clear g4 s4 hzz hbel ha3 hEY E3
                cases h2 : l2.okT with
                | false =>
                  rw [h2] at HR E4
                  have HB := Lib.hid (show l.okT = false by rw [E4.out]; simp)
                  go_wp2_with (go_at_call 33; refine HR.out.mono ?_; rintro e w1 ⟨rfl, hB, _⟩)
                  go_ret
                  exact ⟨ret_bool HB.out.symm, hT.out.bel.trans hB, fun h => by rw [HB.out] at h; cases h⟩
                | true =>
                  rw [h2] at HR E4
                  go_wp2_with (go_at_call 33; refine HR.out.mono ?_; rintro e w1 ⟨rfl, hB, hTK⟩)
                  go_roundw
                  case rel => exact ⟨j + 1, r2, y - ((l2.len + l2.under : Nat) : Int), by go_num, by omega, by omega, by omega, Lib.hid fun b' o' hbo _ => by cases hbo; exact HZ.out, Lib.hid (by rw [E4.out]; simp), Lib.hid (by have h := HE.out; omega), by omega, Lib.hid (hT.out.onto (hTK trivial))⟩
                  case measure => simp [intOf]; omega
  · clear hc hz
    go_loopw [29] (fun i wr => i = .int .i64 0 ∧ Hid (TK cl cm w wr (left - l.len))) (fun i _ => 0)
    case atStart => exact ⟨rfl, Lib.hid (HK.out.set hne _)⟩
    case round =>
      obtain ⟨rfl, hT⟩ := hrel
      have HB := Lib.hid (show l = .nil by cases l with | nil => rfl | node => simp [Tf.len] at *)
      go_wp2_with fail
      go_ret
      refine ⟨ret_bool (by rw [HB.out]; rfl), hT.out.bel, fun _ => ?_⟩
      have h := hT.out
      rw [HB.out] at h ⊢
      simpa [Tf.len, Tf.under] using h

theorem terms_to : ∀ n, TermsTo n
  | 0 => fun _ h => absurd h (Nat.not_lt_zero _)
  | n + 1 => terms_step n (terms_to n)
end Go.Proofs.Ytcadeeldogknmaa
