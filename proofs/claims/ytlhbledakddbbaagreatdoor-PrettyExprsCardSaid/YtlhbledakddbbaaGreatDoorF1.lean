/- Which expressions may be: the document's mayExpr, MayExpr. -/
import Derived.Test.YtlhbledakddbbaaGreatDoorE3
import Derived.Test.YtlhbledakddbbaaGreatDoorE2
import Derived.Test.YtlhbledakddbbaaGreatDoorQ4
import Derived.Test.YtlhbledakddbbaaGreatDoorA7
namespace Go.Proofs.YtlhbledakddbbaaGreatDoor
open Go.RowKit

def argsR (op : Int) : Int := if op = 4 ∨ op = 5 then 1 else if 6 ≤ op ∧ op ≤ 20 then 2 else if op = 21 then 3 else -1
theorem argsR_of {op : Int} (h : 4 ≤ op) (h2 : op ≤ 21) : argsR op = (argsN op : Int) := by
  unfold argsR argsN
  repeat' split
  all_goals omega
theorem argsR_no {op : Int} (h : op < 4 ∨ 21 < op) : argsR op = -1 := by unfold argsR; rw [if_neg (by omega), if_neg (by omega), if_neg (by omega)]
set_option maxHeartbeats 1600000 in
theorem rargs_any (op : Int) (w : World) : Calls Tryz.prog 82 #[.int .i64 op] w fun e w' => e = .returned (.int .i64 (argsR op)) ∧ w = w' := by
  by_cases h4 : op = 4
  · subst h4
    go_enter Tryz.func82, Tryz.ntmps82
    go_wp2_with fail
    go_ret
    exact ⟨rfl, rfl⟩
  by_cases h5 : op = 5
  · subst h5
    go_enter Tryz.func82, Tryz.ntmps82
    go_wp2_with fail
    go_ret
    exact ⟨rfl, rfl⟩
  have t4 : (op == 4) = false := by simp; exact h4
  have t5 : (op == 5) = false := by simp; exact h5
  by_cases h6 : 6 ≤ op
  · by_cases h20 : op ≤ 20
    · have HF := Lib.hid (show argsR op = 2 by unfold argsR; rw [if_neg (by omega), if_pos (by omega)])
      rw [HF.out]
      go_enter Tryz.func82, Tryz.ntmps82
      go_wp2_with fail
      go_ret
      exact ⟨rfl, rfl⟩
    · by_cases h21 : op = 21
      · subst h21
        go_enter Tryz.func82, Tryz.ntmps82
        go_wp2_with fail
        go_ret
        exact ⟨rfl, rfl⟩
      · have t21 : (op == 21) = false := by simp; exact h21
        rw [argsR_no (by omega)]
        go_enter Tryz.func82, Tryz.ntmps82
        go_wp2_with fail
        go_ret
        exact ⟨rfl, rfl⟩
  · have t21 : (op == 21) = false := by simp; omega
    rw [argsR_no (by omega)]
    go_enter Tryz.func82, Tryz.ntmps82
    go_wp2_with fail
    go_ret
    exact ⟨rfl, rfl⟩
theorem Exs.may_nil {a : Exs} (h : a.len = 0) : a.may = true := by cases a with | nil => rfl | cons => simp [Exs.len] at h
def RM (n : Nat) : Prop := ∀ x : Ex, x.size < n → ∀ (p : Option Addr) (c N : Nat) (w : World), x.Ok w N p → N ≤ w.heap.size →
    Calls Tryz.prog 39 #[x.val p c] w fun e w' => e = .returned (.bool x.may) ∧ Below w.heap.size w w'
set_option maxRecDepth 100000 in
set_option maxHeartbeats 6400000 in
theorem rm_step (n : Nat) (ih : RM n) : RM (n + 1) := by
  intro x hxs p c N w hx hN
  obtain ⟨op, wd, nm, ar⟩ := x
  simp only [Ex.size] at hxs
  have hin := hx.1
  simp only [Ex.args] at hin
  have hm := hin.1
  have hB1 : Below w.heap.size w (w.alloc (.cells #[.int .i64 op, .int .u64 (wd : Int), .string (str nm), .slice p ar.len c] 26)) := (Below.refl _ _).alloc (Nat.le_refl _) _
  have HB1 := Lib.hid hB1
  have HX := Lib.hid (fun w1 hb => cells_later (w0 := w.alloc (.cells #[.int .i64 op, .int .u64 (wd : Int), .string (str nm), .slice p ar.len c] 26)) (w1 := w1) (b := w.heap.size) (A := #[.int .i64 op, .int .u64 (wd : Int), .string (str nm), .slice p ar.len c]) (t := 26) (heap_alloc_new w _) hb)
  have HIN := Lib.hid (fun (w1 : World) (hb : Below w.heap.size w w1) => hin.later (hb.mono hN) (Nat.le_trans hN hb.size))
  have HAr := Lib.hid (fun w => rargs_any op w)
  have HNm := Lib.hid (fun w => rnm_any (str nm) w)
  rw [str_data] at HNm
  have IH := Lib.hid ih
  rw [show (Ex.mk op wd nm ar).may = (decide (ar.len = argsN op) && ar.may && okOp op wd nm) by rw [Ex.may]]
  unfold Ex.val
  simp only [Ex.op, Ex.word, Ex.name, Ex.args]
  clear ih hin hB1 hx hN
  have es : ((str nm).toList == []) = nm.isEmpty := str_empty nm
  have es2 : (str nm).toList.isEmpty = nm.isEmpty := by rw [Lib.toList_data, str_data]
  have ew : (((wd : Nat) : Int) == 0) = decide (wd = 0) := nat_zero wd
  have ew2 : (((wd : Nat) : Int) != 0) = !decide (wd = 0) := by rw [← ew]; rfl
  by_cases o1 : op = 1
  · subst o1
    rw [argsR_no (by omega)] at HAr
    by_cases hl : ar.len = 0
    · have HF := Lib.hid (show nm.isEmpty = (decide (ar.len = argsN 1) && ar.may && okOp 1 wd nm) by rw [Exs.may_nil hl, hl, okOp_1]; simp [argsN])
      generalize nm.isEmpty = em at es es2 HF
      have e0 : ((ar.len : Int) == 0) = true := by simp [hl]
      clear hl
      cases em
      go_enter Tryz.func39, Tryz.ntmps39
      go_wp2_with fail
      refine (HAr.out _).mono ?_
      rintro e w' ⟨rfl, rfl⟩
      go_wp2_with fail
      go_ret
      exact ⟨ret_bool HF.out, HB1.out⟩
      go_enter Tryz.func39, Tryz.ntmps39
      go_wp2_with fail
      refine (HAr.out _).mono ?_
      rintro e w' ⟨rfl, rfl⟩
      go_wp2_with fail
      go_ret
      exact ⟨ret_bool HF.out, HB1.out⟩
    · have HF := Lib.hid (show false = (decide (ar.len = argsN 1) && ar.may && okOp 1 wd nm) by rw [decide_eq_false (by simpa [argsN] using hl)]; rfl)
      generalize nm.isEmpty = em at es es2
      have e0 : ((ar.len : Int) == 0) = false := by simp [hl]
      clear hl
      cases em
      go_enter Tryz.func39, Tryz.ntmps39
      go_wp2_with fail
      refine (HAr.out _).mono ?_
      rintro e w' ⟨rfl, rfl⟩
      go_wp2_with fail
      go_ret
      exact ⟨ret_bool HF.out, HB1.out⟩
      go_enter Tryz.func39, Tryz.ntmps39
      go_wp2_with fail
      refine (HAr.out _).mono ?_
      rintro e w' ⟨rfl, rfl⟩
      go_wp2_with fail
      go_ret
      exact ⟨ret_bool HF.out, HB1.out⟩
  by_cases o23 : op = 2 ∨ op = 3
  · have HF0 := Lib.hid (okOp_23 o23 wd nm)
    have har : argsR op = -1 := argsR_no (by omega)
    rw [har] at HAr
    cases hnb : nameB nm with
    | false =>
      rw [hnb] at HNm
      have HF := Lib.hid (show false = (decide (ar.len = argsN op) && ar.may && okOp op wd nm) by rw [HF0.out, hnb]; simp)
      clear hnb har
      rcases o23 with rfl | rfl
      all_goals
        go_enter Tryz.func39, Tryz.ntmps39
        go_wp2_with fail
        refine (HAr.out _).mono ?_
        rintro e w' ⟨rfl, rfl⟩
        go_wp2_with fail
        refine (HNm.out _).mono ?_
        rintro e wn ⟨rfl, hB⟩
        have HD := Lib.hid hB
        have HBn := Lib.hid (HB1.out.trans (hB.mono HB1.out.size))
        clear hB
        go_wp2_with fail
        go_ret
        exact ⟨ret_bool HF.out, HBn.out⟩
    | true =>
      rw [hnb] at HNm
      cases hz : decide (wd = 0) with
      | false =>
        have HF := Lib.hid (show false = (decide (ar.len = argsN op) && ar.may && okOp op wd nm) by rw [HF0.out, hz]; simp)
        rw [hz] at ew ew2
        clear hz hnb har
        rcases o23 with rfl | rfl
        · go_enter Tryz.func39, Tryz.ntmps39
          go_wp2_with fail
          refine (HAr.out _).mono ?_
          rintro e w' ⟨rfl, rfl⟩
          go_wp2_with fail
          refine (HNm.out _).mono ?_
          rintro e wn ⟨rfl, hB⟩
          have HD := Lib.hid hB
          have HBn := Lib.hid (HB1.out.trans (hB.mono HB1.out.size))
          clear hB
          have c1 : wn.cell? ⟨w.heap.size, 1, none⟩ = some (.int .u64 (wd : Int)) := HX.out _ HD.out 1 _ rfl
          go_wp2_with fail
          go_ret
          exact ⟨ret_bool HF.out, HBn.out⟩
        · go_enter Tryz.func39, Tryz.ntmps39
          go_wp2_with fail
          refine (HAr.out _).mono ?_
          rintro e w' ⟨rfl, rfl⟩
          go_wp2_with fail
          refine (HNm.out _).mono ?_
          rintro e wn ⟨rfl, hB⟩
          have HD := Lib.hid hB
          have HBn := Lib.hid (HB1.out.trans (hB.mono HB1.out.size))
          clear hB
          have c1 : wn.cell? ⟨w.heap.size, 1, none⟩ = some (.int .u64 (wd : Int)) := HX.out _ HD.out 1 _ rfl
          go_wp2_with fail
          go_ret
          exact ⟨ret_bool HF.out, HBn.out⟩
      | true =>
        rw [hz] at ew ew2
        rcases o23 with rfl | rfl
        · by_cases hl : ar.len = 0
          · have HF := Lib.hid (show true = (decide (ar.len = argsN 2) && ar.may && okOp 2 wd nm) by rw [HF0.out, hz, hnb, Exs.may_nil hl, hl]; rfl)
            have e0 : ((ar.len : Int) == 0) = true := by simp [hl]
            clear hl hz hnb har
            go_enter Tryz.func39, Tryz.ntmps39
            go_wp2_with fail
            refine (HAr.out _).mono ?_
            rintro e w' ⟨rfl, rfl⟩
            go_wp2_with fail
            refine (HNm.out _).mono ?_
            rintro e wn ⟨rfl, hB⟩
            have HD := Lib.hid hB
            have HBn := Lib.hid (HB1.out.trans (hB.mono HB1.out.size))
            clear hB
            have c1 : wn.cell? ⟨w.heap.size, 1, none⟩ = some (.int .u64 (wd : Int)) := HX.out _ HD.out 1 _ rfl
            have c3 : wn.cell? ⟨w.heap.size, 3, none⟩ = some (.slice p ar.len c) := HX.out _ HD.out 3 _ rfl
            go_wp2_with fail
            go_ret
            exact ⟨ret_bool HF.out, HBn.out⟩
          · have HF := Lib.hid (show false = (decide (ar.len = argsN 2) && ar.may && okOp 2 wd nm) by rw [decide_eq_false (by simpa [argsN] using hl)]; rfl)
            have e0 : ((ar.len : Int) == 0) = false := by simp [hl]
            clear hl hz hnb har
            go_enter Tryz.func39, Tryz.ntmps39
            go_wp2_with fail
            refine (HAr.out _).mono ?_
            rintro e w' ⟨rfl, rfl⟩
            go_wp2_with fail
            refine (HNm.out _).mono ?_
            rintro e wn ⟨rfl, hB⟩
            have HD := Lib.hid hB
            have HBn := Lib.hid (HB1.out.trans (hB.mono HB1.out.size))
            clear hB
            have c1 : wn.cell? ⟨w.heap.size, 1, none⟩ = some (.int .u64 (wd : Int)) := HX.out _ HD.out 1 _ rfl
            have c3 : wn.cell? ⟨w.heap.size, 3, none⟩ = some (.slice p ar.len c) := HX.out _ HD.out 3 _ rfl
            go_wp2_with fail
            go_ret
            exact ⟨ret_bool HF.out, HBn.out⟩
        · by_cases hl : ar.len = 1
          · obtain ⟨y, rfl⟩ := Exs.one hl
            simp only [Exs.size] at hxs
            have HF := Lib.hid (show y.may = (decide ((Exs.cons y .nil).len = argsN 3) && (Exs.cons y .nil).may && okOp 3 wd nm) by rw [HF0.out, hz, hnb]; simp [Exs.may, Exs.len, argsN])
            have e0 : (((Exs.cons y .nil).len : Int) == 1) = true := by simp [Exs.len]
            have hlp : 0 < (Exs.cons y .nil).len := by simp [Exs.len]
            clear hl hz hnb har
            go_enter Tryz.func39, Tryz.ntmps39
            go_wp2_with fail
            refine (HAr.out _).mono ?_
            rintro e w' ⟨rfl, rfl⟩
            go_wp2_with fail
            refine (HNm.out _).mono ?_
            rintro e wn ⟨rfl, hB⟩
            have HD := Lib.hid hB
            have HBn := Lib.hid (HB1.out.trans (hB.mono HB1.out.size))
            clear hB
            obtain ⟨b2, o2, hp2, hb2, hy2⟩ := Exs.In.some' (l := .cons y .nil) (HIN.out wn HBn.out) (by simp [Exs.len])
            subst hp2
            have c1 : wn.cell? ⟨w.heap.size, 1, none⟩ = some (.int .u64 (wd : Int)) := HX.out _ HD.out 1 _ rfl
            have c3 : wn.cell? ⟨w.heap.size, 3, none⟩ = some (.slice (some ⟨b2, o2, none⟩) (Exs.cons y .nil).len c) := HX.out _ HD.out 3 _ rfl
            obtain ⟨q, cq, d0, d1, d2, d3, hok⟩ := hy2.1.open'
            have HC := Lib.hid (IH.out y (by omega) q cq wn.heap.size wn hok (Nat.le_refl _))
            unfold Ex.val at HC
            generalize y.may = v at HC HF
            clear hok hy2
            go_wp2_with fail
            refine HC.out.mono ?_
            rintro e w3 ⟨rfl, hB⟩
            have HB3 := Lib.hid (HBn.out.trans (hB.mono HBn.out.size))
            clear hB
            go_wp2_with fail
            go_ret
            exact ⟨ret_bool HF.out, HB3.out⟩
          · have HF := Lib.hid (show false = (decide (ar.len = argsN 3) && ar.may && okOp 3 wd nm) by rw [decide_eq_false (by simpa [argsN] using hl)]; rfl)
            have e0 : ((ar.len : Int) == 1) = false := by simp; omega
            clear hl hz hnb har
            go_enter Tryz.func39, Tryz.ntmps39
            go_wp2_with fail
            refine (HAr.out _).mono ?_
            rintro e w' ⟨rfl, rfl⟩
            go_wp2_with fail
            refine (HNm.out _).mono ?_
            rintro e wn ⟨rfl, hB⟩
            have HD := Lib.hid hB
            have HBn := Lib.hid (HB1.out.trans (hB.mono HB1.out.size))
            clear hB
            have c1 : wn.cell? ⟨w.heap.size, 1, none⟩ = some (.int .u64 (wd : Int)) := HX.out _ HD.out 1 _ rfl
            have c3 : wn.cell? ⟨w.heap.size, 3, none⟩ = some (.slice p ar.len c) := HX.out _ HD.out 3 _ rfl
            go_wp2_with fail
            go_ret
            exact ⟨ret_bool HF.out, HBn.out⟩
  have t1 : (op == 1) = false := by simp; exact o1
  have t2 : (op == 2) = false := by simp; omega
  have t3 : (op == 3) = false := by simp; omega
  by_cases hop : 4 ≤ op ∧ op ≤ 21
  · rw [argsR_of hop.1 hop.2] at HAr
    have HF0 := Lib.hid (okOp_4 hop.1 hop.2 wd nm)
    clear hop o1 o23
    by_cases hl : ar.len = argsN op
    · have HL := Lib.hid hl
      have hl' : ((ar.len : Int) != (argsN op : Int)) = false := by simp [hl]
      have hn0 : ¬ ((argsN op : Int) < 0) := by omega
      generalize hem : nm.isEmpty = em at es es2
      cases em with
      | false =>
        have HF := Lib.hid (show false = (decide (ar.len = argsN op) && ar.may && okOp op wd nm) by rw [HF0.out, hem]; simp)
        clear hem hl
        generalize argsN op = an at HAr HF hl' hn0
        clear HL
        go_enter Tryz.func39, Tryz.ntmps39
        go_wp2_with fail
        refine (HAr.out _).mono ?_
        rintro e w' ⟨rfl, rfl⟩
        go_wp2_with fail
        go_ret
        exact ⟨ret_bool HF.out, HB1.out⟩
      | true =>
        generalize hz : decide (wd = 0) = z at ew ew2
        cases z with
        | false =>
          have HF := Lib.hid (show false = (decide (ar.len = argsN op) && ar.may && okOp op wd nm) by rw [HF0.out, hz]; simp)
          clear hem hl hz
          generalize argsN op = an at HAr HF hl' hn0
          clear HL
          go_enter Tryz.func39, Tryz.ntmps39
          go_wp2_with fail
          refine (HAr.out _).mono ?_
          rintro e w' ⟨rfl, rfl⟩
          go_wp2_with fail
          go_ret
          exact ⟨ret_bool HF.out, HB1.out⟩
        | true =>
          have HF := Lib.hid (show ar.may = (decide (ar.len = argsN op) && ar.may && okOp op wd nm) by rw [HF0.out, hz, hem, decide_eq_true hl]; simp)
          clear hem hl hz HL
          generalize argsN op = an at HAr HF hl' hn0
          go_enter Tryz.func39, Tryz.ntmps39
          go_wp2_with fail
          refine (HAr.out _).mono ?_
          rintro e w' ⟨rfl, rfl⟩
          go_wp2_with fail
          obtain ⟨W1, hW1⟩ : ∃ W1, w.alloc (.cells #[.int .i64 op, .int .u64 (wd : Int), .string (str nm), .slice p ar.len c] 26) = W1 := ⟨_, rfl⟩
          rw [hW1] at HB1 HX
          rw [hW1]
          clear hW1
          go_loopw [4] (fun i wr => ∃ (k : Nat) (r : Exs), i = .int .i64 k ∧ k + r.len = ar.len ∧ r.size ≤ n ∧ Hid (∀ b o, p = some ⟨b, o, none⟩ → ar.At W1 W1.heap.size b o → r.At W1 W1.heap.size b (o + k * 4)) ∧ Hid (ar.may = r.may) ∧ Hid (Below W1.heap.size W1 wr)) (fun i _ => ar.len - (intOf i).toNat)
          case atStart => exact ⟨0, ar, rfl, by omega, by omega, Lib.hid fun b o _ h => by rw [Nat.zero_mul]; exact h, Lib.hid rfl, Lib.hid (Below.refl _ _)⟩
          case round =>
            obtain ⟨k, r, rfl, hk, hrs, hat, hE, HD⟩ := hrel
            have c3 : wr.cell? ⟨w.heap.size, 3, none⟩ = some (.slice p ar.len c) := HX.out _ HD.out 3 _ rfl
            cases r with
            | nil =>
              simp only [Exs.len] at hk
              have hge : ¬ k < ar.len := by omega
              have HF2 := Lib.hid (show true = (decide (ar.len = an) && ar.may && okOp op wd nm) by rw [← HF.out, hE.out]; rfl)
              go_wp2_with fail
              go_ret
              exact ⟨ret_bool HF2.out, HB1.out.trans (HD.out.mono HB1.out.size)⟩
            | cons y r =>
              simp only [Exs.len] at hk
              simp only [Exs.size] at hrs
              have hlt : k < ar.len := by omega
              rcases (HIN.out W1 HB1.out).2 with h30 | ⟨b, o, rfl, hb, ha⟩
              · omega
              obtain ⟨hy, hr⟩ := hat.out b o rfl ha
              have HR := Lib.hid hr
              obtain ⟨q, cq, d0, d1, d2, d3, hok⟩ := (Ex.At.later HD.out HD.out.size y b _ hb hy).open'
              have HC := Lib.hid (IH.out y (by omega) q cq wr.heap.size wr hok (Nat.le_refl _))
              have HM := Lib.hid (show ar.may = (y.may && r.may) by rw [hE.out, Exs.may])
              unfold Ex.val at HC
              generalize y.may = v at HC HM
              clear hok hy hr ha hat
              cases v with
              | true =>
                go_wp2_with fail
                refine HC.out.mono ?_
                rintro e w3 ⟨rfl, hB⟩
                have HB3 := Lib.hid (HD.out.trans (hB.mono HD.out.size))
                clear hB HC d0 d1 d2 d3
                go_wp2_with fail
                go_roundw
                case rel => exact ⟨k + 1, r, by go_num, by omega, by omega, Lib.hid fun b' o' hbo _ => by cases hbo; rw [show o + (k + 1) * 4 = o + k * 4 + 4 by omega]; exact HR.out, Lib.hid (by rw [HM.out]; rfl), HB3⟩
                case measure => simp [intOf]; omega
              | false =>
                have HF2 := Lib.hid (show false = (decide (ar.len = an) && ar.may && okOp op wd nm) by rw [← HF.out, HM.out]; rfl)
                go_wp2_with fail
                refine HC.out.mono ?_
                rintro e w3 ⟨rfl, hB⟩
                have HB3 := Lib.hid (HD.out.trans (hB.mono HD.out.size))
                clear hB HC d0 d1 d2 d3
                go_wp2_with fail
                go_ret
                exact ⟨ret_bool HF2.out, HB1.out.trans (HB3.out.mono HB1.out.size)⟩
    · have HF := Lib.hid (show false = (decide (ar.len = argsN op) && ar.may && okOp op wd nm) by rw [decide_eq_false hl]; rfl)
      have hl' : ((ar.len : Int) != (argsN op : Int)) = true := by simp; omega
      have hn0 : ¬ ((argsN op : Int) < 0) := by omega
      clear hl
      generalize argsN op = an at HAr HF hl' hn0
      go_enter Tryz.func39, Tryz.ntmps39
      go_wp2_with fail
      refine (HAr.out _).mono ?_
      rintro e w' ⟨rfl, rfl⟩
      go_wp2_with fail
      go_ret
      exact ⟨ret_bool HF.out, HB1.out⟩
  · have har : argsR op = -1 := argsR_no (by omega)
    rw [har] at HAr
    have HF := Lib.hid (show false = (decide (ar.len = argsN op) && ar.may && okOp op wd nm) by rw [okOp_no (by omega)]; simp)
    clear hop o1 o23 har
    go_enter Tryz.func39, Tryz.ntmps39
    go_wp2_with fail
    refine (HAr.out _).mono ?_
    rintro e w' ⟨rfl, rfl⟩
    go_wp2_with fail
    go_ret
    exact ⟨ret_bool HF.out, HB1.out⟩
theorem rm_to : ∀ n, RM n
  | 0 => fun _ h => absurd h (Nat.not_lt_zero _)
  | n + 1 => rm_step n (rm_to n)
theorem rmayExpr_any (x : Ex) (p : Option Addr) (c N : Nat) (w : World) (h : x.Ok w N p) (hN : N ≤ w.heap.size) :
    Calls Tryz.prog 39 #[x.val p c] w fun e w' => e = .returned (.bool x.may) ∧ Below w.heap.size w w' :=
  rm_to _ x (Nat.lt_succ_self _) p c N w h hN
end Go.Proofs.YtlhbledakddbbaaGreatDoor
