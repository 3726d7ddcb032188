/- L5, L6, FM as one. -/
import Derived.Test.YtcadeeldogknmaaL4
import Derived.Maps.OwnSet
/- Leakage measured: the first of what is too deep and what is too much. -/
namespace Go.Proofs.Ytcadeeldogknmaa
open Go.RowKit

mutual
def Lf.meas (deep : Nat) : Lf → Int → Except Int Int
  | .nil, left => .ok left
  | .node _ is _ s r, left =>
    if 512 < deep then .error 12
    else if left - (1 + (is.length : Int)) < 0 then .error 3
    else match s.meas (deep + 1) (left - (1 + (is.length : Int))) with
      | .ok x => r.meas deep x
      | .error e => .error e
def Ls.meas (deep : Nat) : Ls → Int → Except Int Int
  | .nil, left => .ok left
  | .sub l r, left => match l.meas deep left with
    | .ok x => r.meas deep x
    | .error e => .error e
end
/-- the ending of a call that panics with an errno -/
abbrev panicked (y : Int) : Ending := .panicked [{ v := .iface 28 (.int .i64 y), recovered := false }]

def Measured (c : Nat) (w : World) : Except Int Int → Ending → World → Prop
  | .ok x, e, w' => e = .returned (.tuple #[]) ∧ Below c w w' ∧ w'.cell? ⟨c, 0, none⟩ = some (.int .i64 x) ∧ w'.frozen? ⟨c, 0, none⟩ = false ∧ 0 ≤ x ∧ x ≤ 1000000
  | .error y, e, w' => e = panicked y ∧ Below c w w'


theorem set_meas {w : World} {c : Nat} {u v : Value} (hc : w.cell? ⟨c, 0, none⟩ = some u) (hz : w.frozen? ⟨c, 0, none⟩ = false) :
    Below c w (w.setCell ⟨c, 0, none⟩ v).drew ∧ (w.setCell ⟨c, 0, none⟩ v).drew.cell? ⟨c, 0, none⟩ = some v ∧ (w.setCell ⟨c, 0, none⟩ v).drew.frozen? ⟨c, 0, none⟩ = false :=
  ⟨((Below.refl c w).setCell (Nat.le_refl _) v).drew, by simpa using World.cell?_setCell_same w ⟨c, 0, none⟩ v hc, by simpa using hz⟩

set_option maxHeartbeats 1600000 in
theorem meas1_deep (b o c : Nat) (deep : Nat) (w : World) (hd : 512 < deep) :
    Calls Try.prog 53 #[.pointer (some ⟨b, o, none⟩), .int .i64 deep, .pointer (some ⟨c, 0, none⟩)] w fun e w' => e = panicked 12 ∧ w = w' := by
  have hd' : (512 : Int) < deep := by omega
  go_enter Try.func53, Try.ntmps53
  go_wp2_with fail
  exact ⟨rfl, rfl, rfl⟩
set_option maxHeartbeats 1600000 in
theorem meas1_long (b o c ni cp : Nat) (q : Option Addr) (deep : Nat) (left : Int) (w : World) (hd : ¬ 512 < deep)
    (h1 : w.cell? ⟨b, o + 1, none⟩ = some (.slice q ni cp)) (hn : ni ≤ 140737488355328) (hc : w.cell? ⟨c, 0, none⟩ = some (.int .i64 left)) (hz : w.frozen? ⟨c, 0, none⟩ = false) (hl : 0 ≤ left) (hl2 : left ≤ 1000000)
    (hs : left - (1 + (ni : Int)) < 0) :
    Calls Try.prog 53 #[.pointer (some ⟨b, o, none⟩), .int .i64 deep, .pointer (some ⟨c, 0, none⟩)] w fun e w' => e = panicked 3 ∧ Below c w w' := by
  have HB := Lib.hid (set_meas (v := .int .i64 (left - (1 + (ni : Int)))) hc hz).1
  go_enter Try.func53, Try.ntmps53
  go_wp2_with fail
  go_region
  all_goals go_wp2_with fail
  all_goals exact ⟨rfl, rfl, HB.out⟩
set_option maxHeartbeats 1600000 in
theorem meas1_ok (b o c ni cp : Nat) (q : Option Addr) (deep : Nat) (left : Int) (w : World) (hd : ¬ 512 < deep)
    (h1 : w.cell? ⟨b, o + 1, none⟩ = some (.slice q ni cp)) (hn : ni ≤ 140737488355328) (hc : w.cell? ⟨c, 0, none⟩ = some (.int .i64 left)) (hz : w.frozen? ⟨c, 0, none⟩ = false) (hl : 0 ≤ left) (hl2 : left ≤ 1000000)
    (hs : ¬ left - (1 + (ni : Int)) < 0) :
    Calls Try.prog 53 #[.pointer (some ⟨b, o, none⟩), .int .i64 deep, .pointer (some ⟨c, 0, none⟩)] w fun e w' => e = .returned (.bool true) ∧
      Below c w w' ∧ w'.cell? ⟨c, 0, none⟩ = some (.int .i64 (left - (1 + (ni : Int)))) ∧ w'.frozen? ⟨c, 0, none⟩ = false := by
  have HB := Lib.hid (set_meas (v := .int .i64 (left - (1 + (ni : Int)))) hc hz)
  go_enter Try.func53, Try.ntmps53
  go_wp2_with fail
  go_region
  all_goals go_wp2_with fail
  all_goals go_ret
  all_goals exact ⟨rfl, HB.out⟩

def MeasTo (n : Nat) : Prop := ∀ (l : Lf), l.size < n → ∀ (p : Option Addr) (cap N c : Nat) (deep : Nat) (left : Int) (w : World), l.In w N p → N ≤ c → deep ≤ 513 →
    w.cell? ⟨c, 0, none⟩ = some (.int .i64 left) → w.frozen? ⟨c, 0, none⟩ = false → 0 ≤ left → left ≤ 1000000 →
    Calls Try.prog 28 #[.slice p l.len cap, .int .i64 deep, .func (Fn.func 53) #[] #[.pointer (some ⟨c, 0, none⟩)]] w (Measured c w (l.meas deep left))

set_option maxHeartbeats 3200000 in
theorem meas_step (n : Nat) (ih : MeasTo n) : MeasTo (n + 1) := by
  intro l hsz p cap N c deep left w h hNc hdp hc hz hl1 hl2
  have IH := Lib.hid ih
  clear ih
  rcases h with ⟨hm, h0 | ⟨b, o, rfl, hb, ha⟩⟩
  · have E0 := Lib.hid (show l = .nil by cases l with | nil => rfl | node => simp [Lf.len] at h0)
    have HB := Lib.hid (show Measured c w (.ok left) (.returned (.tuple #[])) w from ⟨rfl, Below.refl _ _, hc, hz, hl1, hl2⟩)
    have E1 := Lib.hid (show l.meas deep left = .ok left by rw [E0.out]; rfl)
    rw [E1.out]
    clear hc hz
    go_enter Try.func28, Try.ntmps28
    go_wp2_with fail
    go_loopw [11] (fun i wr => i = .int .i64 0 ∧ wr = w) (fun i _ => 0)
    case atStart => exact ⟨rfl, rfl⟩
    case round =>
      obtain ⟨rfl, rfl⟩ := hrel
      have hge : ¬ 0 < l.len := by omega
      go_wp2_with fail
      go_end0
      exact HB.out
  · obtain ⟨A, hA⟩ : ∃ A, A = l.meas deep left := ⟨_, rfl⟩
    rw [← hA]
    have A0 := Lib.hid hA
    clear hA
    have W0 := Lib.hid ha
    go_enter Try.func28, Try.ntmps28
    go_wp2_with fail
    go_loopw [11] (fun i wr => ∃ (k : Nat) (r : Lf) (x : Int), i = .int .i64 k ∧ k + r.len = l.len ∧ r.size ≤ n ∧ r.At w N b (o + k * 4) ∧ Hid (A = r.meas deep x) ∧ Below c w wr ∧ wr.cell? ⟨c, 0, none⟩ = some (.int .i64 x) ∧ wr.frozen? ⟨c, 0, none⟩ = false ∧ 0 ≤ x ∧ x ≤ 1000000)
      (fun i _ => l.len - (intOf i).toNat)
    case atStart => exact ⟨0, l, left, rfl, by omega, by omega, by rw [Nat.zero_mul]; exact ha, A0, Below.refl _ _, hc, hz, hl1, hl2⟩
    case round =>
      clear hc hz hl1 hl2 A0 ha
      obtain ⟨k, r, x, rfl, hk, hrs, hr, E, hbel, hc, hz, hl1, hl2⟩ := hrel
      cases r with
      | nil =>
        simp only [Lf.len] at hk
        have hge : ¬ k < l.len := by omega
        have HB := Lib.hid (show Measured c w A (.returned (.tuple #[])) wr by rw [E.out]; exact ⟨rfl, hbel, hc, hz, hl1, hl2⟩)
        clear hc hz hbel
        go_wp2_with fail
        go_end0
        exact HB.out
      | node kd is t s r =>
        obtain ⟨g0, ⟨q, cq, g1, s1⟩, g2, ⟨q3, d, g3, s3⟩, hr⟩ := hr
        have hni := s1.1
        simp only [Lf.len] at hk
        simp only [Lf.size] at hrs
        have hlt : k < l.len := by omega
        have f1 := (hbel.cell (show b < c by omega)).trans g1
        have f3 := (hbel.cell (show b < c by omega)).trans g3
        have E1 := Lib.hid (show (Lf.node kd is t s r).meas deep x = (if 512 < deep then .error 12 else if x - (1 + (is.length : Int)) < 0 then .error 3 else match s.meas (deep + 1) (x - (1 + (is.length : Int))) with | .ok y => r.meas deep y | .error e => .error e) from by simp only [Lf.meas])
        by_cases hd : 512 < deep
        · have HP := Lib.hid (meas1_deep b (o + k * 4) c deep wr hd)
          have HB := Lib.hid (show Measured c w A (panicked 12) wr by rw [E.out, E1.out, if_pos hd]; exact ⟨rfl, hbel⟩)
          clear hc hz hbel g0 g1 g2 g3 f1 f3 s1 s3
          go_wp2_with (go_at_call 53; refine HP.out.mono ?_; rintro e w' ⟨rfl, rfl⟩)
          exact ⟨rfl, HB.out⟩
        · have hdd : deep + 1 ≤ 513 := by omega
          by_cases hs : x - (1 + (is.length : Int)) < 0
          · have HP := Lib.hid (meas1_long b (o + k * 4) c is.length cq q deep x wr hd f1 hni hc hz hl1 hl2 hs)
            have HB := Lib.hid (fun (w' : World) (h : Below c wr w') => (show Measured c w A (panicked 3) w' by rw [E.out, E1.out, if_neg hd, if_pos hs]; exact ⟨rfl, hbel.trans h⟩))
            clear hc hz hbel g0 g1 g2 g3 f1 f3 s1 s3 hs hl1 hl2
            go_wp2_with (go_at_call 53; refine HP.out.mono ?_; rintro e w' ⟨rfl, hB⟩)
            exact ⟨rfl, HB.out _ hB⟩
          · have HP := Lib.hid (meas1_ok b (o + k * 4) c is.length cq q deep x wr hd f1 hni hc hz hl1 hl2 hs)
            have E2 := Lib.hid (show A = match s.meas (deep + 1) (x - (1 + (is.length : Int))) with | .ok y => r.meas deep y | .error e => .error e by rw [E.out, E1.out, if_neg hd, if_neg hs])
            clear hc hz g0 g1 g2 f1 s1 E1 E
            have hl3 : 0 ≤ x - (1 + (is.length : Int)) := by omega
            have hl4 : x - (1 + (is.length : Int)) ≤ 1000000 := by omega
            obtain ⟨x1, hx1⟩ : ∃ x1, x1 = x - (1 + (is.length : Int)) := ⟨_, rfl⟩
            rw [← hx1] at HP E2 hl3 hl4
            clear hx1 hl1 hl2
            rcases s3 with ⟨hm3, h30 | ⟨b3, o3, rfl, hb3, ha3⟩⟩
            · have E3 := Lib.hid (show A = r.meas deep x1 by rw [E2.out]; cases s with | nil => rfl | sub => simp [Ls.len] at h30)
              clear E2
              go_wp2_with (go_at_call 53; refine HP.out.mono ?_; rintro e w1 ⟨rfl, hB, hc, hz⟩; have f3 := (hB.cell (show b < c by omega)).trans f3)
              have hbel := hbel.trans hB
              clear hB g3
              go_loopw [27] (fun i wr' => i = .int .i64 0 ∧ wr' = w1) (fun i _ => 0)
              case atStart => exact ⟨rfl, rfl⟩
              case round =>
                obtain ⟨rfl, rfl⟩ := hrel
                go_wp2_with fail
                go_roundw
                case rel => exact ⟨k + 1, r, x1, by go_num, by omega, by omega, At_step hr, E3, hbel, hc, hz, hl3, hl4⟩
                case measure => simp [intOf]; omega
            · go_wp2_with (go_at_call 53; refine HP.out.mono ?_; rintro e w1 ⟨rfl, hB, hc, hz⟩; have f3 := (hB.cell (show b < c by omega)).trans f3)
              have hbel := hbel.trans hB
              clear hB g3
              go_loopw [27] (fun i wr' => ∃ (j : Nat) (z : Ls) (y : Int), i = .int .i64 j ∧ j + z.len = s.len ∧ z.size ≤ s.size ∧ z.At w N b3 (o3 + j) ∧
                  Hid (A = match z.meas (deep + 1) y with | .ok y => r.meas deep y | .error e => .error e) ∧ Below c w wr' ∧ wr'.cell? ⟨c, 0, none⟩ = some (.int .i64 y) ∧ wr'.frozen? ⟨c, 0, none⟩ = false ∧ 0 ≤ y ∧ y ≤ 1000000)
                (fun i _ => s.len - (intOf i).toNat)
              case atStart => exact ⟨0, s, x1, rfl, by omega, Nat.le_refl _, ha3, E2, hbel, hc, hz, hl3, hl4⟩
              case round =>
                clear hc hz hl3 hl4 E2 ha3 hbel HP
                obtain ⟨j, z, y, rfl, hj, hzs, hzz, E3, hbel, hc, hz, hl3, hl4⟩ := hrel
                cases z with
                | nil =>
                  simp only [Ls.len] at hj
                  have hge : ¬ j < s.len := by omega
                  go_wp2_with fail
                  go_roundw
                  case rel => exact ⟨k + 1, r, y, by go_num, by omega, by omega, At_step hr, E3, hbel, hc, hz, hl3, hl4⟩
                  case measure => simp [intOf]; omega
                | sub l2 r2 =>
                  obtain ⟨⟨q4, c4, g4, s4⟩, hzz⟩ := hzz
                  simp only [Ls.len] at hj
                  simp only [Ls.size] at hzs
                  have hlt3 : j < s.len := by omega
                  have f4 := (hbel.cell (show b3 < c by omega)).trans g4
                  have HR := Lib.hid (IH.out l2 (by omega) q4 c4 N c (deep + 1) y _ (s4.imp (Nat.le_refl _) fun b' o' hb' ha' => Lf.At.later (hbel.mono hNc) (Nat.le_refl _) _ _ _ hb' ha') hNc hdd hc hz hl3 hl4)
                  have E4 := Lib.hid (show A = match (match l2.meas (deep + 1) y with | .ok x => r2.meas (deep + 1) x | .error e => .error e) with | .ok y => r.meas deep y | .error e => .error e from E3.out.trans (by simp only [Ls.meas]))
                  clear g4 s4 E3 hc hz hl3 hl4
                  cases h2 : l2.meas (deep + 1) y with
                  | error er =>
                    rw [h2] at HR E4
                    have HB := Lib.hid (fun (w' : World) (h : Below c wr w') => (show Measured c w A (panicked er) w' by rw [E4.out]; exact ⟨rfl, hbel.trans h⟩))
                    clear hbel
                    go_wp2_with (go_at_call 28; refine HR.out.mono ?_; rintro e w' ⟨rfl, hB⟩)
                    exact ⟨rfl, HB.out _ hB⟩
                  | ok y2 =>
                    rw [h2] at HR E4
                    go_wp2_with (go_at_call 28; refine HR.out.mono ?_; rintro e w' ⟨rfl, hB, hc, hz, hl3, hl4⟩)
                    go_roundw
                    case rel => exact ⟨j + 1, r2, y2, by go_num, by omega, by omega, hzz, E4, hbel.trans hB, hc, hz, hl3, hl4⟩
                    case measure => simp [intOf]; omega

theorem meas_to : ∀ n, MeasTo n
  | 0 => fun _ h => absurd h (Nat.not_lt_zero _)
  | n + 1 => meas_step n (meas_to n)
end Go.Proofs.Ytcadeeldogknmaa
/- check: the first error of a leakage. -/
namespace Go.Proofs.Ytcadeeldogknmaa
open Go.RowKit

/-- what a deferred recover makes of an ending -/
def Caught (y : Option Int) : Ending → Prop := fun e => match y with
  | none => e = .returned (.tuple #[])
  | some y => e = panicked y

theorem below_new {w w1 : World} {o : Obj} (h : Below (w.heap.size + 1) (w.alloc o) w1) : Below w.heap.size w w1 :=
  ((Below.refl _ w).alloc (Nat.le_refl _) o).trans (h.mono (Nat.le_succ _))

set_option maxHeartbeats 1600000 in
/-- measure's closure, caught -/
theorem caught_measure (cs : Array Value) (w : World) (y : Option Int) (R : World → Prop)
    (hdo : Calls Try.prog 52 cs (w.alloc (.cells #[.int .i64 0] 28)) fun e w1 => Caught y e ∧ Below (w.heap.size + 1) (w.alloc (.cells #[.int .i64 0] 28)) w1 ∧ R w1) :
    Calls Try.prog 22 #[.func (Fn.func 52) #[] cs] w fun e w' => e = .returned (.int .i64 (y.getD 0)) ∧
      ∃ w1, R w1 ∧ Below w.heap.size w w1 ∧ w' = w1.setCell ⟨w.heap.size, 0, none⟩ (.int .i64 (y.getD 0)) := by
  have hmf : ∀ (fn : Fn) (first cap : Array Value) (w : World), (Instr.makeFunc fn first cap).run Try.prog w = .ok (.func fn first cap) w := fun _ _ _ _ => rfl
  have HD := Lib.hid hdo
  clear hdo
  have HC := Lib.hid (show ∀ w1, Below (w.heap.size + 1) (w.alloc (.cells #[.int .i64 0] 28)) w1 → w1.cell? ⟨w.heap.size, 0, none⟩ = some (.int .i64 0) ∧ w1.frozen? ⟨w.heap.size, 0, none⟩ = false from
    fun w1 hB => ⟨(hB.cell (Nat.lt_succ_self _)).trans (by simp [go_sem]), (hB.frozen (Nat.lt_succ_self _)).trans (by simp [go_sem])⟩)
  cases y with
  | none =>
    go_enter_defers Try.func22, Try.ntmps22
    go_wp2_with (go_at_call 52; refine HD.out.mono ?_; rintro e w1 ⟨rfl, hB, hR⟩; obtain ⟨hc, hz⟩ := HC.out _ hB)
    refine leaves_cons (f := 45) (args := #[.pointer (some ⟨w.heap.size, 0, none⟩)]) (by simp) (by simp [go_sem]) ?_
    refine (caught_idle ⟨w.heap.size, 0, none⟩ _).mono ?_
    rintro e u' w'' ⟨rfl, rfl, rfl⟩
    have hc' := World.cell?_setCell_same w1 ⟨w.heap.size, 0, none⟩ (.int .i64 0) hc
    simp [Leaves, settle, results, Try.results22, go_sem, hc']
    exact ⟨w1, hR, below_new hB, rfl⟩
  | some y =>
    go_enter_defers Try.func22, Try.ntmps22
    go_wp2_with (go_at_call 52; refine HD.out.mono ?_; rintro e w1 ⟨rfl, hB, hR⟩; obtain ⟨hc, hz⟩ := HC.out _ hB)
    refine leaves_cons (f := 45) (args := #[.pointer (some ⟨w.heap.size, 0, none⟩)]) (by simp) (by simp [go_sem]) ?_
    refine (caught_panicking ⟨w.heap.size, 0, none⟩ 0 y [] _ hc hz).mono ?_
    rintro e u' w'' ⟨rfl, rfl, rfl⟩
    have hc' := World.cell?_setCell_same w1 ⟨w.heap.size, 0, none⟩ (.int .i64 y) hc
    simp [Leaves, settle, results, Try.results22, go_sem, hc']
    exact ⟨w1, hR, below_new hB, rfl⟩
end Go.Proofs.Ytcadeeldogknmaa
/- A map whose keys are ints and whose values are functions, made by a call out of a literal: what a look-up in it comes to. Over any program. -/
namespace Go.Proofs.Ytcadeeldogknmaa
open Go Go.RowKit

/-- Entries at these keys, one function each, in this order. -/
def fes : Nat → List (Int × Nat) → List MapEntry
  | _, [] => []
  | i, x :: r => { key := .int .i64 x.1, val := .func (.func x.2) #[] #[], born := i } :: fes (i + 1) r
/-- The function at a key. -/
def fat : List (Int × Nat) → Int → Option Nat
  | [], _ => none
  | p :: r, x => if x = p.1 then some p.2 else fat r x
def fval (l : List (Int × Nat)) (x : Int) : Value := match fat l x with | some f => .func (.func f) #[] #[] | none => .nilFunc
/-- The map's block. -/
def fmap (l : List (Int × Nat)) : Obj := .map (fes 0 l).toArray l.length

theorem fes_append (i : Nat) (l : List (Int × Nat)) (x : Int × Nat) : fes i (l ++ [x]) = fes i l ++ [{ key := .int .i64 x.1, val := .func (.func x.2) #[] #[], born := i + l.length }] := by
  induction l generalizing i with
  | nil => simp [fes]
  | cons y r ih => simp [fes, ih, Nat.add_comm, Nat.add_left_comm]

theorem find_fes (l : List (Int × Nat)) (x : Int) (i j : Nat) : ∃ n, Instr.findNow (.int .i64) (.int .i64 x) (fes i l) j = some ((fat l x).map fun f => (n, .func (.func f) #[] #[])) := by
  induction l generalizing i j with
  | nil => exact ⟨0, rfl⟩
  | cons y r ih =>
    by_cases h : x = y.1
    · refine ⟨j, ?_⟩
      simp [fes, Instr.findNow, Instr.sameNow, fat, h]
    · obtain ⟨n, hn⟩ := ih (i + 1) (j + 1)
      refine ⟨n, ?_⟩
      have hb : (x == y.1) = false := by simpa using h
      simp [fes, Instr.findNow, Instr.sameNow, fat, h, hb, hn]

theorem set_push_last {α : Type} (a : Array α) (x y : α) : (a.push x).setIfInBounds a.size y = a.push y := by
  obtain ⟨l⟩ := a
  simp

section
variable {P : Program} {t k e : TypeId}
theorem run_look_fmap (ht : P.underlying t = some (.map k e)) (hk : P.underlying k = some (.int .i64)) (hz : ∀ w, (zeroValue e).run P w = .ok .nilFunc w) (l : List (Int × Nat)) {w : World} {b : Nat} (hb : w.heap[b]? = some (fmap l)) (x : Int) :
    (Instr.lookup t (.map (some b)) (.int .i64 x) true).run P w = .ok (.tuple #[fval l x, .bool (fat l x).isSome]) w := by
  obtain ⟨n, hn⟩ := find_fes l x 0 0
  have hb' : w.heap[b]? = some (.map (fes 0 l).toArray l.length) := hb
  have hf := MapKept.run_findKey (P := P) (w := w) hk hn
  unfold fval
  cases h : fat l x with
  | none => simp [h] at hf; simp [Instr.lookup, run_underlying ht, MapKept.run_getObj_map hb', MapKept.run_checkKey hk (k := .int .i64 x) rfl, hf, hz, Result.andThen]
  | some f => simp [h] at hf; simp [Instr.lookup, run_underlying ht, MapKept.run_getObj_map hb', MapKept.run_checkKey hk (k := .int .i64 x) rfl, hf, Result.andThen]
theorem run_look1_fmap (ht : P.underlying t = some (.map k e)) (hk : P.underlying k = some (.int .i64)) (hz : ∀ w, (zeroValue e).run P w = .ok .nilFunc w) (l : List (Int × Nat)) {w : World} {b : Nat} (hb : w.heap[b]? = some (fmap l)) (x : Int) :
    (Instr.lookup t (.map (some b)) (.int .i64 x) false).run P w = .ok (fval l x) w := by
  obtain ⟨n, hn⟩ := find_fes l x 0 0
  have hb' : w.heap[b]? = some (.map (fes 0 l).toArray l.length) := hb
  have hf := MapKept.run_findKey (P := P) (w := w) hk hn
  unfold fval
  cases h : fat l x with
  | none => simp [h] at hf; simp [Instr.lookup, run_underlying ht, MapKept.run_getObj_map hb', MapKept.run_checkKey hk (k := .int .i64 x) rfl, hf, hz, Result.andThen]
  | some f => simp [h] at hf; simp [Instr.lookup, run_underlying ht, MapKept.run_getObj_map hb', MapKept.run_checkKey hk (k := .int .i64 x) rfl, hf, Result.andThen]
/-- a literal's next entry -/
theorem run_put_fmap (ht : P.underlying t = some (.map k e)) (hk : P.underlying k = some (.int .i64)) (l : List (Int × Nat)) (w : World) (x : Int) (f : Nat) (hx : fat l x = none) :
    (Instr.mapUpdate t (.map (some w.heap.size)) (.int .i64 x) (.func (.func f) #[] #[])).run P (w.alloc (fmap l)) = .ok () (w.alloc (fmap (l ++ [(x, f)]))) := by
  obtain ⟨n, hn⟩ := find_fes l x 0 0
  have hb : (w.alloc (fmap l)).heap[w.heap.size]? = some (.map (fes 0 l).toArray l.length) := (MapKept.heap_alloc w _).1
  have hf := MapKept.run_findKey (P := P) (w := w.alloc (fmap l)) hk hn
  simp [hx] at hf
  have e1 : ({ w.alloc (fmap l) with heap := (w.alloc (fmap l)).heap.setIfInBounds w.heap.size (fmap (l ++ [(x, f)])) } : World) = w.alloc (fmap (l ++ [(x, f)])) := by
    show ({ w with heap := (w.heap.push (fmap l)).setIfInBounds w.heap.size (fmap (l ++ [(x, f)])) } : World) = { w with heap := w.heap.push (fmap (l ++ [(x, f)])) }
    rw [set_push_last]
  simp [Instr.mapUpdate, run_underlying ht, MapKept.run_getObj_map hb, MapKept.run_checkKey hk (k := .int .i64 x) rfl, hf, MapKept.run_setObj_map _ hb, Result.andThen]
  rw [← e1]
  simp [fmap, fes_append]
end
/-- .. as a table's first n entries -/
def ft (T : List (Int × Nat)) (n : Nat) : Obj := fmap (T.take n)
theorem run_put_ft {P : Program} {t k e : TypeId} (ht : P.underlying t = some (.map k e)) (hk : P.underlying k = some (.int .i64)) (T : List (Int × Nat)) (n : Nat) (x : Int) (f : Nat) (hT : T[n]? = some (x, f)) (hx : fat (T.take n) x = none) (w : World) :
    (Instr.mapUpdate t (.map (some w.heap.size)) (.int .i64 x) (.func (.func f) #[] #[])).run P (w.alloc (ft T n)) = .ok () (w.alloc (ft T (n + 1))) := by
  have h := run_put_fmap ht hk (T.take n) w x f hx
  have e1 : T.take (n + 1) = T.take n ++ [(x, f)] := by rw [List.take_add_one, hT]; rfl
  rw [← e1] at h
  exact h
theorem run_put_ft0 {P : Program} {t k e : TypeId} (ht : P.underlying t = some (.map k e)) (hk : P.underlying k = some (.int .i64)) (T : List (Int × Nat)) (x : Int) (f : Nat) (hT : T[0]? = some (x, f)) (w : World) :
    (Instr.mapUpdate t (.map (some w.heap.size)) (.int .i64 x) (.func (.func f) #[] #[])).run P (w.alloc (.map #[] 0)) = .ok () (w.alloc (ft T 1)) :=
  run_put_ft ht hk T 0 x f hT (by rfl) w
/-- What a call hands back that makes such a map: it lies in a new block. -/
def MapAt (T : List (Int × Nat)) (w : World) (e : Ending) (w' : World) : Prop := ∃ b, e = .returned (.map (some b)) ∧ w'.heap[b]? = some (fmap T) ∧ w.heap.size ≤ b ∧ Below w.heap.size w w'
theorem mapAt_new (T : List (Int × Nat)) (n : Nat) (hn : n = T.length) (w : World) : MapAt T w (.returned (.map (some w.heap.size))) (w.alloc (ft T n)) := by
  refine ⟨_, rfl, ?_, Nat.le_refl _, (Below.refl _ _).alloc (Nat.le_refl _) _⟩
  rw [(MapKept.heap_alloc w _).1, ft, hn, List.take_length]
end Go.Proofs.Ytcadeeldogknmaa
