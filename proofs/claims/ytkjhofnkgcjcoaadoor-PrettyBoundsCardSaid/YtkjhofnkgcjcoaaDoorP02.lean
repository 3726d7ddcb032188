/- Which expressions can be told. -/
import Derived.Test.YtkjhofnkgcjcoaaDoorP00
import Derived.Test.YtkjhofnkgcjcoaaDoorP01
import Derived.StillTailTactics
import Derived.Deep.RegionHeld3
namespace Go.Proofs.YtkjhofnkgcjcoaaDoor
open Go.RowKit

def argsN (op : Int) : Nat := if op = 21 then 3 else if 6 ≤ op ∧ op ≤ 20 then 2 else if 3 ≤ op ∧ op ≤ 5 then 1 else 0
def okOp (op : Int) (x : Nat) (nm : List UInt8) : Bool :=
  if op = 1 then nm.isEmpty else if op = 2 ∨ op = 3 then decide (x = 0) && nameB nm else if 4 ≤ op ∧ op ≤ 21 then decide (x = 0) && nm.isEmpty else false
mutual
def Ex.may : Ex → Bool
  | .mk op x nm as' => decide (as'.len = argsN op) && as'.may && okOp op x nm
def Exs.may : Exs → Bool
  | .nil => true
  | .cons x r => x.may && r.may
end

set_option maxHeartbeats 1600000 in
theorem argsOf_any (op : Int) (w : World) : Calls Tryd.prog 34 #[.int .i64 op] w fun e w' => e = .returned (.int .i64 (argsN op)) ∧ w = w' := by
  unfold argsN
  by_cases h1 : op = 21
  · subst h1
    go_enter Tryd.func34, Tryd.ntmps34
    go_wp2
    go_ret
    exact ⟨rfl, rfl⟩
  have e1 : (op == 21) = false := by simp; exact h1
  rw [if_neg h1]
  by_cases h6 : 6 ≤ op
  · by_cases h20 : op ≤ 20
    · rw [if_pos ⟨h6, h20⟩]
      go_enter Tryd.func34, Tryd.ntmps34
      go_wp2
      go_ret
      exact ⟨rfl, rfl⟩
    · rw [if_neg (fun h => h20 h.2), if_neg (by omega)]
      have h3 : 3 ≤ op := by omega
      have h5 : ¬ op ≤ 5 := by omega
      go_enter Tryd.func34, Tryd.ntmps34
      go_wp2
      go_ret
      exact ⟨rfl, rfl⟩
  · rw [if_neg (fun h => h6 h.1)]
    by_cases h3 : 3 ≤ op
    · have h5 : op ≤ 5 := by omega
      rw [if_pos ⟨h3, h5⟩]
      go_enter Tryd.func34, Tryd.ntmps34
      go_wp2
      go_ret
      exact ⟨rfl, rfl⟩
    · rw [if_neg (fun h => h3 h.1)]
      go_enter Tryd.func34, Tryd.ntmps34
      go_wp2
      go_ret
      exact ⟨rfl, rfl⟩

def MayTo (n : Nat) : Prop := ∀ (x : Ex), x.size < n → ∀ (p : Option Addr) (c N : Nat) (w : World), N ≤ w.heap.size → x.Ok w N p →
    Calls Tryd.prog 15 #[x.val p c] w fun e w' => e = .returned (.bool x.may) ∧ Below w.heap.size w w'

set_option maxHeartbeats 1600000 in
theorem every_step (n : Nat) (ih : MayTo n) (l : Exs) (hl : l.size ≤ n) (p : Option Addr) (c N : Nat) (w : World) (hN : N ≤ w.heap.size) (h : l.In w N p) :
    Calls Tryd.prog 35 #[.slice p l.len c, .func (.func 15) #[] #[]] w fun e w' => e = .returned (.bool l.may) ∧ Below w.heap.size w w' := by
  have IH := Lib.hid ih
  clear ih
  rcases h with ⟨hm, h0 | ⟨b, o, rfl, hb, ha⟩⟩
  · go_enter Tryd.func35, Tryd.ntmps35
    go_wp2_with fail
    go_loopw [9] (fun i wr => i = .int .i64 0 ∧ wr = w) (fun _ _ => 0)
    case atStart => exact ⟨rfl, rfl⟩
    case round =>
      obtain ⟨rfl, rfl⟩ := hrel
      have hge : ¬ 0 < l.len := by omega
      go_wp2_with fail
      go_ret
      exact ⟨ret_bool (by cases l with | nil => rfl | cons => simp [Exs.len] at h0), Below.refl _ _⟩
  · have HA := Lib.hid ha
    clear ha
    go_enter Tryd.func35, Tryd.ntmps35
    go_wp2_with fail
    go_loopw [9] (fun i wr => ∃ (k : Nat) (r : Exs), i = .int .i64 k ∧ k + r.len = l.len ∧ r.size ≤ n ∧ Hid (r.At w N b (o + k * 4)) ∧ Hid (l.may = r.may) ∧ Hid (Below w.heap.size w wr)) (fun i _ => l.len - (intOf i).toNat)
    case atStart => exact ⟨0, l, rfl, by omega, hl, Lib.hid (by rw [Nat.zero_mul]; exact HA.out), Lib.hid rfl, Lib.hid (Below.refl _ _)⟩
    case round =>
      obtain ⟨k, r, rfl, hk, hrs, hr, hE, hB⟩ := hrel
      cases r with
      | nil =>
        simp only [Exs.len] at hk
        have hge : ¬ k < l.len := by omega
        go_wp2_with fail
        go_ret
        exact ⟨ret_bool (by rw [hE.out]; rfl), hB.out⟩
      | cons x r =>
        obtain ⟨hx, hr2⟩ := hr.out
        have hr3 := Lib.hid (show r.At w N b (o + (k + 1) * 4) by rw [show o + (k + 1) * 4 = o + k * 4 + 4 by omega]; exact hr2)
        simp only [Exs.len] at hk
        simp only [Exs.size] at hrs
        have hlt : k < l.len := by omega
        have hx' := Ex.At.later (hB.out.mono hN) (Nat.le_refl _) x b (o + k * 4) hb hx
        have HIH := Lib.hid (fun p c w h1 h2 => IH.out x (by omega) p c N w h1 h2)
        obtain ⟨op, wd, nm, ar⟩ := x
        obtain ⟨⟨g0, g1, g2, g3⟩, ⟨q, d, g4, s4⟩⟩ := hx'
        have HOk := Lib.hid (show (Ex.mk op wd nm ar).Ok wr N q from ⟨s4, g3⟩)
        have HE := Lib.hid (show l.may = ((Ex.mk op wd nm ar).may && r.may) by rw [hE.out, Exs.may])
        clear hr hx hr2 s4
        obtain ⟨m, hm'⟩ : ∃ m, (Ex.mk op wd nm ar).may = m := ⟨_, rfl⟩
        rw [hm'] at HE HIH
        have HNr := Nat.le_trans hN hB.out.size
        have HB2 := Lib.hid ((Below.refl wr.heap.size wr).alloc (Nat.le_refl _) (.cells #[.int .i64 op, .int .u64 (wd : Int), .string (str nm), .slice q ar.len d] 29))
        have HC := Lib.hid (HIH.out q d _ (by simp; omega) (HOk.out.later (HB2.out.mono HNr) (Nat.le_refl _)))
        unfold Ex.val at HC
        simp only [Ex.op, Ex.word, Ex.name, Ex.args] at HC
        cases m
        · go_wp2_with fail
          refine HC.out.mono ?_
          rintro e w2 ⟨rfl, hB2⟩
          go_wp2_with fail
          go_ret
          exact ⟨ret_bool (by rw [HE.out]; rfl), (hB.out.trans (HB2.out.mono hB.out.size)).trans (hB2.mono (Nat.le_trans hB.out.size HB2.out.size))⟩
        · go_wp2_with fail
          refine HC.out.mono ?_
          rintro e w2 ⟨rfl, hB2⟩
          have HB3 := Lib.hid ((hB.out.trans (HB2.out.mono hB.out.size)).trans (hB2.mono (Nat.le_trans hB.out.size HB2.out.size)))
          clear hB2
          go_wp2_with fail
          go_roundw
          case rel => exact ⟨k + 1, r, by go_num, by omega, by omega, hr3, Lib.hid (by rw [HE.out]; simp), HB3⟩
          case measure => simp [intOf]; omega

theorem okOp_1 (x : Nat) (nm : List UInt8) : okOp 1 x nm = nm.isEmpty := by rw [okOp, if_pos rfl]
theorem okOp_23 {op : Int} (h : op = 2 ∨ op = 3) (x : Nat) (nm : List UInt8) : okOp op x nm = (decide (x = 0) && nameB nm) := by
  rw [okOp, if_neg (by omega), if_pos h]
theorem okOp_4 {op : Int} (h : 4 ≤ op) (h2 : op ≤ 21) (x : Nat) (nm : List UInt8) : okOp op x nm = (decide (x = 0) && nm.isEmpty) := by
  rw [okOp, if_neg (by omega), if_neg (by omega), if_pos ⟨h, h2⟩]
theorem okOp_no {op : Int} (h : op ≤ 0 ∨ 22 ≤ op) (x : Nat) (nm : List UInt8) : okOp op x nm = false := by
  rw [okOp, if_neg (by omega), if_neg (by omega), if_neg (by omega)]
theorem str_empty (nm : List UInt8) : ((str nm).toList == []) = nm.isEmpty := by
  rw [Go.Lib.toList_data, str_data]; cases nm <;> rfl
theorem nat_zero (x : Nat) : (((x : Nat) : Int) == 0) = decide (x = 0) := by
  rw [Bool.eq_iff_iff]; simp

set_option maxRecDepth 100000 in
set_option maxHeartbeats 6400000 in
theorem may_step (n : Nat) (ih : MayTo n) : MayTo (n + 1) := by
  intro x hxs p c N w hN hok
  obtain ⟨op, wd, nm, ar⟩ := x
  obtain ⟨hin, hw⟩ := hok
  simp only [Ex.size] at hxs
  simp only [Ex.args] at hin
  rw [show (Ex.mk op wd nm ar).may = (decide (ar.len = argsN op) && ar.may && okOp op wd nm) by rw [Ex.may]]
  unfold Ex.val
  simp only [Ex.op, Ex.word, Ex.name, Ex.args]
  have hB1 : Below w.heap.size w (w.alloc (.cells #[.int .i64 op, .int .u64 (wd : Int), .string (str nm), .slice p ar.len c] 29)) := (Below.refl _ _).alloc (Nat.le_refl _) _
  have HEv := Lib.hid (every_step n ih ar (by omega) p c N (w.alloc (.cells #[.int .i64 op, .int .u64 (wd : Int), .string (str nm), .slice p ar.len c] 29)).drew (by simp; omega) ((hin.later (hB1.mono hN) (Nat.le_refl _)).later (Below.refl _ _).drew (Nat.le_refl _)))
  have HB1 := Lib.hid hB1
  have HA := Lib.hid (fun w => argsOf_any op w)
  have HNm := Lib.hid (fun w => name_any (str nm) w)
  rw [str_data] at HNm
  have es := str_empty nm
  have ew := nat_zero wd
  clear ih hin hB1
  by_cases hl : ar.len = argsN op
  · have e1 : ((ar.len : Int) != (argsN op : Int)) = false := by rw [hl]; simp
    rw [decide_eq_true hl]
    generalize argsN op = an at HA e1
    obtain ⟨m, hm⟩ : ∃ m, ar.may = m := ⟨_, rfl⟩
    rw [hm] at HEv ⊢
    clear hl hm
    cases m
    · go_enter Tryd.func15, Tryd.ntmps15
      go_wp2_with fail
      go_region_held3 (fun w' => w'.cell? ⟨w.heap.size, 0, none⟩ = some (.int .i64 op) ∧ w'.cell? ⟨w.heap.size, 1, none⟩ = some (.int .u64 (wd : Int)) ∧ w'.cell? ⟨w.heap.size, 2, none⟩ = some (.string (str nm)) ∧ w'.cell? ⟨w.heap.size, 3, none⟩ = some (.slice p ar.len c))
        (first | go_keep | (go_split_ands; refine ⟨?_, ?_, ?_, ?_⟩ <;> (refine (hB.cell (by simp)).trans ?_; assumption)))
        (first | (go_at_call 34; refine (HA.out _).mono ?_; rintro e w' ⟨rfl, rfl⟩) | (go_at_call 35; refine HEv.out.mono ?_; rintro e w' ⟨rfl, hB⟩))
      all_goals (have HB := Lib.hid hB)
      all_goals clear hB
      all_goals go_wp2_with fail
      all_goals go_ret
      all_goals exact ⟨by simp, HB1.out.drew.trans (HB.out.mono (by simp))⟩
    · by_cases o1 : op = 1
      · subst o1
        have HF := Lib.hid (show (true && true && okOp 1 wd nm) = nm.isEmpty by rw [okOp_1]; rfl)
        generalize nm.isEmpty = em at es HF
        go_enter Tryd.func15, Tryd.ntmps15
        go_wp2_with fail
        go_region_held3 (fun w' => w'.cell? ⟨w.heap.size, 0, none⟩ = some (.int .i64 1) ∧ w'.cell? ⟨w.heap.size, 1, none⟩ = some (.int .u64 (wd : Int)) ∧ w'.cell? ⟨w.heap.size, 2, none⟩ = some (.string (str nm)) ∧ w'.cell? ⟨w.heap.size, 3, none⟩ = some (.slice p ar.len c))
          (first | go_keep | (go_split_ands; refine ⟨?_, ?_, ?_, ?_⟩ <;> (refine (hB.cell (by simp)).trans ?_; assumption)))
          (first | (go_at_call 34; refine (HA.out _).mono ?_; rintro e w' ⟨rfl, rfl⟩) | (go_at_call 35; refine HEv.out.mono ?_; rintro e w' ⟨rfl, hB⟩))
        have HB := Lib.hid hB
        have c0 : w'.cell? ⟨w.heap.size, 0, none⟩ = some (.int .i64 1) := (hB.cell (by simp)).trans (by simp [go_sem])
        have c1 : w'.cell? ⟨w.heap.size, 1, none⟩ = some (.int .u64 (wd : Int)) := (hB.cell (by simp)).trans (by simp [go_sem])
        have c2 : w'.cell? ⟨w.heap.size, 2, none⟩ = some (.string (str nm)) := (hB.cell (by simp)).trans (by simp [go_sem])
        clear hB
        go_wp2_with fail
        go_ret
        exact ⟨ret_bool HF.out.symm, HB1.out.drew.trans (HB.out.mono (by simp))⟩
      have t1 : (op == 1) = false := by simp; exact o1
      by_cases o23 : op = 2 ∨ op = 3
      · have HF := Lib.hid (show (true && true && okOp op wd nm) = (decide (wd = 0) && nameB nm) by rw [okOp_23 o23]; rfl)
        generalize decide (wd = 0) = z at ew HF
        generalize nameB nm = nb at HNm HF
        cases z
        · rcases o23 with rfl | rfl
          · go_enter Tryd.func15, Tryd.ntmps15
            go_wp2_with fail
            go_region_held3 (fun w' => w'.cell? ⟨w.heap.size, 0, none⟩ = some (.int .i64 2) ∧ w'.cell? ⟨w.heap.size, 1, none⟩ = some (.int .u64 (wd : Int)) ∧ w'.cell? ⟨w.heap.size, 2, none⟩ = some (.string (str nm)) ∧ w'.cell? ⟨w.heap.size, 3, none⟩ = some (.slice p ar.len c))
              (first | go_keep | (go_split_ands; refine ⟨?_, ?_, ?_, ?_⟩ <;> (refine (hB.cell (by simp)).trans ?_; assumption)))
              (first | (go_at_call 34; refine (HA.out _).mono ?_; rintro e w' ⟨rfl, rfl⟩) | (go_at_call 35; refine HEv.out.mono ?_; rintro e w' ⟨rfl, hB⟩))
            have HB := Lib.hid hB
            have c0 : w'.cell? ⟨w.heap.size, 0, none⟩ = some (.int .i64 2) := (hB.cell (by simp)).trans (by simp [go_sem])
            have c1 : w'.cell? ⟨w.heap.size, 1, none⟩ = some (.int .u64 (wd : Int)) := (hB.cell (by simp)).trans (by simp [go_sem])
            have c2 : w'.cell? ⟨w.heap.size, 2, none⟩ = some (.string (str nm)) := (hB.cell (by simp)).trans (by simp [go_sem])
            clear hB
            go_wp2_with fail
            go_ret
            exact ⟨ret_bool HF.out.symm, HB1.out.drew.trans (HB.out.mono (by simp))⟩
          · go_enter Tryd.func15, Tryd.ntmps15
            go_wp2_with fail
            go_region_held3 (fun w' => w'.cell? ⟨w.heap.size, 0, none⟩ = some (.int .i64 3) ∧ w'.cell? ⟨w.heap.size, 1, none⟩ = some (.int .u64 (wd : Int)) ∧ w'.cell? ⟨w.heap.size, 2, none⟩ = some (.string (str nm)) ∧ w'.cell? ⟨w.heap.size, 3, none⟩ = some (.slice p ar.len c))
              (first | go_keep | (go_split_ands; refine ⟨?_, ?_, ?_, ?_⟩ <;> (refine (hB.cell (by simp)).trans ?_; assumption)))
              (first | (go_at_call 34; refine (HA.out _).mono ?_; rintro e w' ⟨rfl, rfl⟩) | (go_at_call 35; refine HEv.out.mono ?_; rintro e w' ⟨rfl, hB⟩))
            have HB := Lib.hid hB
            have c0 : w'.cell? ⟨w.heap.size, 0, none⟩ = some (.int .i64 3) := (hB.cell (by simp)).trans (by simp [go_sem])
            have c1 : w'.cell? ⟨w.heap.size, 1, none⟩ = some (.int .u64 (wd : Int)) := (hB.cell (by simp)).trans (by simp [go_sem])
            have c2 : w'.cell? ⟨w.heap.size, 2, none⟩ = some (.string (str nm)) := (hB.cell (by simp)).trans (by simp [go_sem])
            clear hB
            go_wp2_with fail
            go_ret
            exact ⟨ret_bool HF.out.symm, HB1.out.drew.trans (HB.out.mono (by simp))⟩
        · rcases o23 with rfl | rfl
          · go_enter Tryd.func15, Tryd.ntmps15
            go_wp2_with fail
            go_region_held3 (fun w' => w'.cell? ⟨w.heap.size, 0, none⟩ = some (.int .i64 2) ∧ w'.cell? ⟨w.heap.size, 1, none⟩ = some (.int .u64 (wd : Int)) ∧ w'.cell? ⟨w.heap.size, 2, none⟩ = some (.string (str nm)) ∧ w'.cell? ⟨w.heap.size, 3, none⟩ = some (.slice p ar.len c))
              (first | go_keep | (go_split_ands; refine ⟨?_, ?_, ?_, ?_⟩ <;> (refine (hB.cell (by simp)).trans ?_; assumption)))
              (first | (go_at_call 34; refine (HA.out _).mono ?_; rintro e w' ⟨rfl, rfl⟩) | (go_at_call 35; refine HEv.out.mono ?_; rintro e w' ⟨rfl, hB⟩))
            have HB := Lib.hid hB
            have c0 : w'.cell? ⟨w.heap.size, 0, none⟩ = some (.int .i64 2) := (hB.cell (by simp)).trans (by simp [go_sem])
            have c1 : w'.cell? ⟨w.heap.size, 1, none⟩ = some (.int .u64 (wd : Int)) := (hB.cell (by simp)).trans (by simp [go_sem])
            have c2 : w'.cell? ⟨w.heap.size, 2, none⟩ = some (.string (str nm)) := (hB.cell (by simp)).trans (by simp [go_sem])
            clear hB
            go_wp2_with fail
            refine (HNm.out _).mono ?_
            rintro e w' ⟨rfl, rfl⟩
            go_wp2_with fail
            go_ret
            exact ⟨ret_bool HF.out.symm, HB1.out.drew.trans (HB.out.mono (by simp))⟩
          · go_enter Tryd.func15, Tryd.ntmps15
            go_wp2_with fail
            go_region_held3 (fun w' => w'.cell? ⟨w.heap.size, 0, none⟩ = some (.int .i64 3) ∧ w'.cell? ⟨w.heap.size, 1, none⟩ = some (.int .u64 (wd : Int)) ∧ w'.cell? ⟨w.heap.size, 2, none⟩ = some (.string (str nm)) ∧ w'.cell? ⟨w.heap.size, 3, none⟩ = some (.slice p ar.len c))
              (first | go_keep | (go_split_ands; refine ⟨?_, ?_, ?_, ?_⟩ <;> (refine (hB.cell (by simp)).trans ?_; assumption)))
              (first | (go_at_call 34; refine (HA.out _).mono ?_; rintro e w' ⟨rfl, rfl⟩) | (go_at_call 35; refine HEv.out.mono ?_; rintro e w' ⟨rfl, hB⟩))
            have HB := Lib.hid hB
            have c0 : w'.cell? ⟨w.heap.size, 0, none⟩ = some (.int .i64 3) := (hB.cell (by simp)).trans (by simp [go_sem])
            have c1 : w'.cell? ⟨w.heap.size, 1, none⟩ = some (.int .u64 (wd : Int)) := (hB.cell (by simp)).trans (by simp [go_sem])
            have c2 : w'.cell? ⟨w.heap.size, 2, none⟩ = some (.string (str nm)) := (hB.cell (by simp)).trans (by simp [go_sem])
            clear hB
            go_wp2_with fail
            refine (HNm.out _).mono ?_
            rintro e w' ⟨rfl, rfl⟩
            go_wp2_with fail
            go_ret
            exact ⟨ret_bool HF.out.symm, HB1.out.drew.trans (HB.out.mono (by simp))⟩
      have t2 : (op == 2) = false := by simp; omega
      have t3 : (op == 3) = false := by simp; omega
      by_cases o4 : 4 ≤ op
      · by_cases o21 : op ≤ 21
        · have HF := Lib.hid (show (true && true && okOp op wd nm) = (decide (wd = 0) && nm.isEmpty) by rw [okOp_4 o4 o21]; rfl)
          generalize decide (wd = 0) = z at ew HF
          generalize nm.isEmpty = em at es HF
          cases z
          · clear o1 o23
            go_enter Tryd.func15, Tryd.ntmps15
            go_wp2_with fail
            go_region_held3 (fun w' => w'.cell? ⟨w.heap.size, 0, none⟩ = some (.int .i64 op) ∧ w'.cell? ⟨w.heap.size, 1, none⟩ = some (.int .u64 (wd : Int)) ∧ w'.cell? ⟨w.heap.size, 2, none⟩ = some (.string (str nm)) ∧ w'.cell? ⟨w.heap.size, 3, none⟩ = some (.slice p ar.len c))
              (first | go_keep | (go_split_ands; refine ⟨?_, ?_, ?_, ?_⟩ <;> (refine (hB.cell (by simp)).trans ?_; assumption)))
              (first | (go_at_call 34; refine (HA.out _).mono ?_; rintro e w' ⟨rfl, rfl⟩) | (go_at_call 35; refine HEv.out.mono ?_; rintro e w' ⟨rfl, hB⟩))
            have HB := Lib.hid hB
            have c0 : w'.cell? ⟨w.heap.size, 0, none⟩ = some (.int .i64 op) := (hB.cell (by simp)).trans (by simp [go_sem])
            have c1 : w'.cell? ⟨w.heap.size, 1, none⟩ = some (.int .u64 (wd : Int)) := (hB.cell (by simp)).trans (by simp [go_sem])
            have c2 : w'.cell? ⟨w.heap.size, 2, none⟩ = some (.string (str nm)) := (hB.cell (by simp)).trans (by simp [go_sem])
            clear hB
            go_wp2_with fail
            go_ret
            exact ⟨ret_bool HF.out.symm, HB1.out.drew.trans (HB.out.mono (by simp))⟩
          · clear o1 o23
            go_enter Tryd.func15, Tryd.ntmps15
            go_wp2_with fail
            go_region_held3 (fun w' => w'.cell? ⟨w.heap.size, 0, none⟩ = some (.int .i64 op) ∧ w'.cell? ⟨w.heap.size, 1, none⟩ = some (.int .u64 (wd : Int)) ∧ w'.cell? ⟨w.heap.size, 2, none⟩ = some (.string (str nm)) ∧ w'.cell? ⟨w.heap.size, 3, none⟩ = some (.slice p ar.len c))
              (first | go_keep | (go_split_ands; refine ⟨?_, ?_, ?_, ?_⟩ <;> (refine (hB.cell (by simp)).trans ?_; assumption)))
              (first | (go_at_call 34; refine (HA.out _).mono ?_; rintro e w' ⟨rfl, rfl⟩) | (go_at_call 35; refine HEv.out.mono ?_; rintro e w' ⟨rfl, hB⟩))
            have HB := Lib.hid hB
            have c0 : w'.cell? ⟨w.heap.size, 0, none⟩ = some (.int .i64 op) := (hB.cell (by simp)).trans (by simp [go_sem])
            have c1 : w'.cell? ⟨w.heap.size, 1, none⟩ = some (.int .u64 (wd : Int)) := (hB.cell (by simp)).trans (by simp [go_sem])
            have c2 : w'.cell? ⟨w.heap.size, 2, none⟩ = some (.string (str nm)) := (hB.cell (by simp)).trans (by simp [go_sem])
            clear hB
            go_wp2_with fail
            go_ret
            exact ⟨ret_bool HF.out.symm, HB1.out.drew.trans (HB.out.mono (by simp))⟩
        · have HF := Lib.hid (show (true && true && okOp op wd nm) = false by rw [okOp_no (by omega)]; rfl)
          clear o1 o23
          go_enter Tryd.func15, Tryd.ntmps15
          go_wp2_with fail
          go_region_held3 (fun w' => w'.cell? ⟨w.heap.size, 0, none⟩ = some (.int .i64 op) ∧ w'.cell? ⟨w.heap.size, 1, none⟩ = some (.int .u64 (wd : Int)) ∧ w'.cell? ⟨w.heap.size, 2, none⟩ = some (.string (str nm)) ∧ w'.cell? ⟨w.heap.size, 3, none⟩ = some (.slice p ar.len c))
            (first | go_keep | (go_split_ands; refine ⟨?_, ?_, ?_, ?_⟩ <;> (refine (hB.cell (by simp)).trans ?_; assumption)))
            (first | (go_at_call 34; refine (HA.out _).mono ?_; rintro e w' ⟨rfl, rfl⟩) | (go_at_call 35; refine HEv.out.mono ?_; rintro e w' ⟨rfl, hB⟩))
          have HB := Lib.hid hB
          have c0 : w'.cell? ⟨w.heap.size, 0, none⟩ = some (.int .i64 op) := (hB.cell (by simp)).trans (by simp [go_sem])
          have c1 : w'.cell? ⟨w.heap.size, 1, none⟩ = some (.int .u64 (wd : Int)) := (hB.cell (by simp)).trans (by simp [go_sem])
          have c2 : w'.cell? ⟨w.heap.size, 2, none⟩ = some (.string (str nm)) := (hB.cell (by simp)).trans (by simp [go_sem])
          clear hB
          go_wp2_with fail
          go_ret
          exact ⟨ret_bool HF.out.symm, HB1.out.drew.trans (HB.out.mono (by simp))⟩
      · have HF := Lib.hid (show (true && true && okOp op wd nm) = false by rw [okOp_no (by omega)]; rfl)
        clear o1 o23
        go_enter Tryd.func15, Tryd.ntmps15
        go_wp2_with fail
        go_region_held3 (fun w' => w'.cell? ⟨w.heap.size, 0, none⟩ = some (.int .i64 op) ∧ w'.cell? ⟨w.heap.size, 1, none⟩ = some (.int .u64 (wd : Int)) ∧ w'.cell? ⟨w.heap.size, 2, none⟩ = some (.string (str nm)) ∧ w'.cell? ⟨w.heap.size, 3, none⟩ = some (.slice p ar.len c))
          (first | go_keep | (go_split_ands; refine ⟨?_, ?_, ?_, ?_⟩ <;> (refine (hB.cell (by simp)).trans ?_; assumption)))
          (first | (go_at_call 34; refine (HA.out _).mono ?_; rintro e w' ⟨rfl, rfl⟩) | (go_at_call 35; refine HEv.out.mono ?_; rintro e w' ⟨rfl, hB⟩))
        have HB := Lib.hid hB
        have c0 : w'.cell? ⟨w.heap.size, 0, none⟩ = some (.int .i64 op) := (hB.cell (by simp)).trans (by simp [go_sem])
        have c1 : w'.cell? ⟨w.heap.size, 1, none⟩ = some (.int .u64 (wd : Int)) := (hB.cell (by simp)).trans (by simp [go_sem])
        have c2 : w'.cell? ⟨w.heap.size, 2, none⟩ = some (.string (str nm)) := (hB.cell (by simp)).trans (by simp [go_sem])
        clear hB
        go_wp2_with fail
        go_ret
        exact ⟨ret_bool HF.out.symm, HB1.out.drew.trans (HB.out.mono (by simp))⟩
  · have e1 : ((ar.len : Int) != (argsN op : Int)) = true := by simp; omega
    rw [decide_eq_false hl]
    generalize argsN op = an at HA e1
    clear hl HEv
    go_enter Tryd.func15, Tryd.ntmps15
    go_wp2_with fail
    go_quiet ((go_at_call 34; exact Calls.quiet_of_same ((HA.out _).mono fun e w1 h => ⟨h.1, h.2.symm⟩)))
    go_wp2_with fail
    go_ret
    exact ⟨by simp, below_drewN HB1.out _⟩
theorem may_to : ∀ n, MayTo n
  | 0 => fun _ h => absurd h (Nat.not_lt_zero _)
  | n + 1 => may_step n (may_to n)
theorem mayExpr_any (x : Ex) (p : Option Addr) (c N : Nat) (w : World) (hN : N ≤ w.heap.size) (h : x.Ok w N p) :
    Calls Tryd.prog 15 #[x.val p c] w fun e w' => e = .returned (.bool x.may) ∧ Below w.heap.size w w' :=
  may_to _ x (Nat.lt_succ_self _) p c N w hN h
end Go.Proofs.YtkjhofnkgcjcoaaDoor
