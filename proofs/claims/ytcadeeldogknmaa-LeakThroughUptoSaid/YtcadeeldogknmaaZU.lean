/- ZT, ZU as one. -/
import Derived.Test.YtcadeeldogknmaaZS
import Derived.Test.YtcadeeldogknmaaZ8
/- Leakage counted, any list. -/
namespace Go.Proofs.Ytcadeeldogknmaa
open Go.RowKit

mutual
def Lf.cnt (deep : Nat) : Lf → Int → Except Int Int
  | .nil, n => .ok n
  | .node _ is _ s r, n =>
    if 512 < deep then r.cnt deep n
    else if 1000000 < n + (1 + (is.length : Int)) then .error 3
    else match s.cnt (deep + 1) (n + (1 + (is.length : Int))) with
      | .ok x => r.cnt deep x
      | .error e => .error e
def Ls.cnt (deep : Nat) : Ls → Int → Except Int Int
  | .nil, n => .ok n
  | .sub l r, n => match l.cnt deep n with
    | .ok x => r.cnt deep x
    | .error e => .error e
end
/-- all is as it was, but one block -/
structure BC (c : Nat) (w w' : World) : Prop where
  bel : Below c w w'
  ch : Ch c none w w'
theorem BC.refl (c : Nat) (w : World) : BC c w w := ⟨Below.refl _ _, Ch.refl _ _ _⟩
theorem BC.trans {c : Nat} {a b d : World} (h : BC c a b) (k : BC c b d) : BC c a d := ⟨h.bel.trans k.bel, h.ch.trans k.ch (.inl rfl)⟩
theorem BC.mono {c N : Nat} {a b : World} (h : BC c a b) (hN : N ≤ c) : Below N a b := h.bel.mono hN
theorem BC.cell {c : Nat} {a b : World} {p : Addr} (h : BC c a b) (hp : p.block < c) : b.cell? p = a.cell? p := h.bel.cell hp
theorem set_cnt {w : World} {c : Nat} {u v : Value} (hc : w.cell? ⟨c, 0, none⟩ = some u) (hz : w.frozen? ⟨c, 0, none⟩ = false) :
    BC c w (w.setCell ⟨c, 0, none⟩ v).drew ∧ (w.setCell ⟨c, 0, none⟩ v).drew.cell? ⟨c, 0, none⟩ = some v ∧ (w.setCell ⟨c, 0, none⟩ v).drew.frozen? ⟨c, 0, none⟩ = false :=
  ⟨⟨(set_meas (v := v) hc hz).1, (Ch.put none w 0 v).trans (Ch.of none (Below.refl _ _).drew) (.inl rfl)⟩, (set_meas (v := v) hc hz).2⟩
def Counted (c : Nat) (w : World) : Except Int Int → Ending → World → Prop
  | .ok x, e, w' => e = .returned (.tuple #[]) ∧ BC c w w' ∧ w'.cell? ⟨c, 0, none⟩ = some (.int .i64 x) ∧ w'.frozen? ⟨c, 0, none⟩ = false ∧ 0 ≤ x ∧ x ≤ 1000000
  | .error _, e, w' => e = panicked 3 ∧ BC c w w' ∧ ∃ x : Int, w'.cell? ⟨c, 0, none⟩ = some (.int .i64 x) ∧ w'.frozen? ⟨c, 0, none⟩ = false ∧ 1000000 < x
set_option maxHeartbeats 1600000 in
theorem cnt1_deep (b o c : Nat) (deep : Nat) (w : World) (hd : 512 < deep) :
    Calls Try.prog 50 #[.pointer (some ⟨b, o, none⟩), .int .i64 deep, .pointer (some ⟨c, 0, none⟩)] w fun e w' => e = .returned (.bool false) ∧ w = w' := by
  have hd' : (512 : Int) < deep := by omega
  go_enter Try.func50, Try.ntmps50
  go_wp2_with fail
  go_ret
  exact ⟨rfl, rfl⟩
set_option maxHeartbeats 1600000 in
theorem cnt1_long (b o c ni cp : Nat) (q : Option Addr) (deep : Nat) (left : Int) (w : World) (hd : ¬ 512 < deep)
    (h1 : w.cell? ⟨b, o + 1, none⟩ = some (.slice q ni cp)) (hn : ni ≤ 140737488355328) (hc : w.cell? ⟨c, 0, none⟩ = some (.int .i64 left)) (hz : w.frozen? ⟨c, 0, none⟩ = false) (hl : 0 ≤ left) (hl2 : left ≤ 1000000)
    (hs : 1000000 < left + (1 + (ni : Int))) :
    Calls Try.prog 50 #[.pointer (some ⟨b, o, none⟩), .int .i64 deep, .pointer (some ⟨c, 0, none⟩)] w fun e w' => e = panicked 3 ∧ BC c w w' ∧ w'.cell? ⟨c, 0, none⟩ = some (.int .i64 (left + (1 + (ni : Int)))) ∧ w'.frozen? ⟨c, 0, none⟩ = false := by
  have HB := Lib.hid (set_cnt (v := .int .i64 (left + (1 + (ni : Int)))) hc hz)
  go_enter Try.func50, Try.ntmps50
  go_wp2_with fail
  go_region
  all_goals go_wp2_with fail
  all_goals exact ⟨rfl, rfl, HB.out⟩
set_option maxHeartbeats 1600000 in
theorem cnt1_ok (b o c ni cp : Nat) (q : Option Addr) (deep : Nat) (left : Int) (w : World) (hd : ¬ 512 < deep)
    (h1 : w.cell? ⟨b, o + 1, none⟩ = some (.slice q ni cp)) (hn : ni ≤ 140737488355328) (hc : w.cell? ⟨c, 0, none⟩ = some (.int .i64 left)) (hz : w.frozen? ⟨c, 0, none⟩ = false) (hl : 0 ≤ left) (hl2 : left ≤ 1000000)
    (hs : ¬ 1000000 < left + (1 + (ni : Int))) :
    Calls Try.prog 50 #[.pointer (some ⟨b, o, none⟩), .int .i64 deep, .pointer (some ⟨c, 0, none⟩)] w fun e w' => e = .returned (.bool true) ∧
      BC c w w' ∧ w'.cell? ⟨c, 0, none⟩ = some (.int .i64 (left + (1 + (ni : Int)))) ∧ w'.frozen? ⟨c, 0, none⟩ = false := by
  have HB := Lib.hid (set_cnt (v := .int .i64 (left + (1 + (ni : Int)))) hc hz)
  go_enter Try.func50, Try.ntmps50
  go_wp2_with fail
  go_region
  all_goals go_wp2_with fail
  all_goals go_ret
  all_goals exact ⟨rfl, HB.out⟩

def CntTo (n : Nat) : Prop := ∀ (l : Lf), l.size < n → ∀ (p : Option Addr) (cap N c : Nat) (deep : Nat) (left : Int) (w : World), l.In w N p → N ≤ c → deep ≤ 513 →
    w.cell? ⟨c, 0, none⟩ = some (.int .i64 left) → w.frozen? ⟨c, 0, none⟩ = false → 0 ≤ left → left ≤ 1000000 →
    Calls Try.prog 28 #[.slice p l.len cap, .int .i64 deep, .func (Fn.func 50) #[] #[.pointer (some ⟨c, 0, none⟩)]] w (Counted c w (l.cnt deep left))

set_option maxHeartbeats 3200000 in
theorem cnt_step (n : Nat) (ih : CntTo n) : CntTo (n + 1) := by
  intro l hsz p cap N c deep left w h hNc hdp hc hz hl1 hl2
  have IH := Lib.hid ih
  clear ih
  rcases h with ⟨hm, h0 | ⟨b, o, rfl, hb, ha⟩⟩
  · have E0 := Lib.hid (show l = .nil by cases l with | nil => rfl | node => simp [Lf.len] at h0)
    have HB := Lib.hid (show Counted c w (.ok left) (.returned (.tuple #[])) w from ⟨rfl, BC.refl _ _, hc, hz, hl1, hl2⟩)
    have E1 := Lib.hid (show l.cnt deep left = .ok left by rw [E0.out]; rfl)
    rw [E1.out]
    clear hc hz
    go_enter Try.func28, Try.ntmps28
    go_wp2_with fail
    go_loopw [11] (fun i wr => i = .int .i64 0 ∧ wr = w) (fun i _ => 0)
    case atStart => exact ⟨rfl, rfl⟩
    case round =>
      obtain ⟨rfl, rfl⟩ := hrel
      have hge : ¬ 0 < l.len := by omega
      go_wp2_with fail
      go_end0
      exact HB.out
  · obtain ⟨A, hA⟩ : ∃ A, A = l.cnt deep left := ⟨_, rfl⟩
    rw [← hA]
    have A0 := Lib.hid hA
    clear hA
    have W0 := Lib.hid ha
    go_enter Try.func28, Try.ntmps28
    go_wp2_with fail
    go_loopw [11] (fun i wr => ∃ (k : Nat) (r : Lf) (x : Int), i = .int .i64 k ∧ k + r.len = l.len ∧ r.size ≤ n ∧ r.At w N b (o + k * 4) ∧ Hid (A = r.cnt deep x) ∧ BC c w wr ∧ wr.cell? ⟨c, 0, none⟩ = some (.int .i64 x) ∧ wr.frozen? ⟨c, 0, none⟩ = false ∧ 0 ≤ x ∧ x ≤ 1000000)
      (fun i _ => l.len - (intOf i).toNat)
    case atStart => exact ⟨0, l, left, rfl, by omega, by omega, by rw [Nat.zero_mul]; exact ha, A0, BC.refl _ _, hc, hz, hl1, hl2⟩
    case round =>
      clear hc hz hl1 hl2 A0 ha
      obtain ⟨k, r, x, rfl, hk, hrs, hr, E, hbel, hc, hz, hl1, hl2⟩ := hrel
      cases r with
      | nil =>
        simp only [Lf.len] at hk
        have hge : ¬ k < l.len := by omega
        have HB := Lib.hid (show Counted c w A (.returned (.tuple #[])) wr by rw [E.out]; exact ⟨rfl, hbel, hc, hz, hl1, hl2⟩)
        clear hc hz hbel
        go_wp2_with fail
        go_end0
        exact HB.out
      | node kd is t s r =>
        obtain ⟨g0, ⟨q, cq, g1, s1⟩, g2, ⟨q3, d, g3, s3⟩, hr⟩ := hr
        have hni := s1.1
        simp only [Lf.len] at hk
        simp only [Lf.size] at hrs
        have hlt : k < l.len := by omega
        have f1 := (hbel.cell (show b < c by omega)).trans g1
        have f3 := (hbel.cell (show b < c by omega)).trans g3
        have E1 := Lib.hid (show (Lf.node kd is t s r).cnt deep x = (if 512 < deep then r.cnt deep x else if 1000000 < x + (1 + (is.length : Int)) then .error 3 else match s.cnt (deep + 1) (x + (1 + (is.length : Int))) with | .ok y => r.cnt deep y | .error e => .error e) from by simp only [Lf.cnt])
        by_cases hd : 512 < deep
        · have HP := Lib.hid (cnt1_deep b (o + k * 4) c deep wr hd)
          have E3 := Lib.hid (show A = r.cnt deep x by rw [E.out, E1.out, if_pos hd])
          clear E E1 g0 g1 g2 g3 f1 f3 s1 s3
          go_wp2_with (go_at_call 50; refine HP.out.mono ?_; rintro e w' ⟨rfl, rfl⟩)
          go_roundw
          case rel => exact ⟨k + 1, r, x, by go_num, by omega, by omega, At_step hr, E3, hbel, hc, hz, hl1, hl2⟩
          case measure => simp [intOf]; omega
        · have hdd : deep + 1 ≤ 513 := by omega
          by_cases hs : 1000000 < x + (1 + (is.length : Int))
          · have HP := Lib.hid (cnt1_long b (o + k * 4) c is.length cq q deep x wr hd f1 hni hc hz hl1 hl2 hs)
            have HB := Lib.hid (fun (w' : World) (h : BC c wr w') (hx : ∃ x : Int, w'.cell? ⟨c, 0, none⟩ = some (.int .i64 x) ∧ w'.frozen? ⟨c, 0, none⟩ = false ∧ 1000000 < x) => (show Counted c w A (panicked 3) w' by rw [E.out, E1.out, if_neg hd, if_pos hs]; exact ⟨rfl, hbel.trans h, hx⟩))
            have Hs := Lib.hid hs
            clear hc hz hbel g0 g1 g2 g3 f1 f3 s1 s3 hs hl1 hl2
            go_wp2_with (go_at_call 50; refine HP.out.mono ?_; rintro e w' ⟨rfl, hB, hc9, hz9⟩)
            exact ⟨rfl, HB.out _ hB ⟨_, hc9, hz9, Hs.out⟩⟩
          · have HP := Lib.hid (cnt1_ok b (o + k * 4) c is.length cq q deep x wr hd f1 hni hc hz hl1 hl2 hs)
            have E2 := Lib.hid (show A = match s.cnt (deep + 1) (x + (1 + (is.length : Int))) with | .ok y => r.cnt deep y | .error e => .error e by rw [E.out, E1.out, if_neg hd, if_neg hs])
            clear hc hz g0 g1 g2 f1 s1 E1 E
            have hl3 : 0 ≤ x + (1 + (is.length : Int)) := by omega
            have hl4 : x + (1 + (is.length : Int)) ≤ 1000000 := by omega
            obtain ⟨x1, hx1⟩ : ∃ x1, x1 = x + (1 + (is.length : Int)) := ⟨_, rfl⟩
            rw [← hx1] at HP E2 hl3 hl4
            clear hx1 hl1 hl2
            rcases s3 with ⟨hm3, h30 | ⟨b3, o3, rfl, hb3, ha3⟩⟩
            · have E3 := Lib.hid (show A = r.cnt deep x1 by rw [E2.out]; cases s with | nil => rfl | sub => simp [Ls.len] at h30)
              clear E2
              go_wp2_with (go_at_call 50; refine HP.out.mono ?_; rintro e w1 ⟨rfl, hB, hc, hz⟩; have f3 := (hB.cell (show b < c by omega)).trans f3)
              have hbel := hbel.trans hB
              clear hB g3
              go_loopw [27] (fun i wr' => i = .int .i64 0 ∧ wr' = w1) (fun i _ => 0)
              case atStart => exact ⟨rfl, rfl⟩
              case round =>
                obtain ⟨rfl, rfl⟩ := hrel
                go_wp2_with fail
                go_roundw
                case rel => exact ⟨k + 1, r, x1, by go_num, by omega, by omega, At_step hr, E3, hbel, hc, hz, hl3, hl4⟩
                case measure => simp [intOf]; omega
            · go_wp2_with (go_at_call 50; refine HP.out.mono ?_; rintro e w1 ⟨rfl, hB, hc, hz⟩; have f3 := (hB.cell (show b < c by omega)).trans f3)
              have hbel := hbel.trans hB
              clear hB g3
              go_loopw [27] (fun i wr' => ∃ (j : Nat) (z : Ls) (y : Int), i = .int .i64 j ∧ j + z.len = s.len ∧ z.size ≤ s.size ∧ z.At w N b3 (o3 + j) ∧
                  Hid (A = match z.cnt (deep + 1) y with | .ok y => r.cnt deep y | .error e => .error e) ∧ BC c w wr' ∧ wr'.cell? ⟨c, 0, none⟩ = some (.int .i64 y) ∧ wr'.frozen? ⟨c, 0, none⟩ = false ∧ 0 ≤ y ∧ y ≤ 1000000)
                (fun i _ => s.len - (intOf i).toNat)
              case atStart => exact ⟨0, s, x1, rfl, by omega, Nat.le_refl _, ha3, E2, hbel, hc, hz, hl3, hl4⟩
              case round =>
                clear hc hz hl3 hl4 E2 ha3 hbel HP
                obtain ⟨j, z, y, rfl, hj, hzs, hzz, E3, hbel, hc, hz, hl3, hl4⟩ := hrel
                cases z with
                | nil =>
                  simp only [Ls.len] at hj
                  have hge : ¬ j < s.len := by omega
                  go_wp2_with fail
                  go_roundw
                  case rel => exact ⟨k + 1, r, y, by go_num, by omega, by omega, At_step hr, E3, hbel, hc, hz, hl3, hl4⟩
                  case measure => simp [intOf]; omega
                | sub l2 r2 =>
                  obtain ⟨⟨q4, c4, g4, s4⟩, hzz⟩ := hzz
                  simp only [Ls.len] at hj
                  simp only [Ls.size] at hzs
                  have hlt3 : j < s.len := by omega
                  have f4 := (hbel.cell (show b3 < c by omega)).trans g4
                  have HR := Lib.hid (IH.out l2 (by omega) q4 c4 N c (deep + 1) y _ (s4.imp (Nat.le_refl _) fun b' o' hb' ha' => Lf.At.later (hbel.mono hNc) (Nat.le_refl _) _ _ _ hb' ha') hNc hdd hc hz hl3 hl4)
                  have E4 := Lib.hid (show A = match (match l2.cnt (deep + 1) y with | .ok x => r2.cnt (deep + 1) x | .error e => .error e) with | .ok y => r.cnt deep y | .error e => .error e from E3.out.trans (by simp only [Ls.cnt]))
                  clear g4 s4 E3 hc hz hl3 hl4
                  cases h2 : l2.cnt (deep + 1) y with
                  | error er =>
                    rw [h2] at HR E4
                    have HB := Lib.hid (fun (w' : World) (h : BC c wr w') (hx : ∃ x : Int, w'.cell? ⟨c, 0, none⟩ = some (.int .i64 x) ∧ w'.frozen? ⟨c, 0, none⟩ = false ∧ 1000000 < x) => (show Counted c w A (panicked 3) w' by rw [E4.out]; exact ⟨rfl, hbel.trans h, hx⟩))
                    clear hbel
                    go_wp2_with (go_at_call 28; refine HR.out.mono ?_; rintro e w' ⟨rfl, hB, hx9⟩)
                    exact ⟨rfl, HB.out _ hB hx9⟩
                  | ok y2 =>
                    rw [h2] at HR E4
                    go_wp2_with (go_at_call 28; refine HR.out.mono ?_; rintro e w' ⟨rfl, hB, hc, hz, hl3, hl4⟩)
                    go_roundw
                    case rel => exact ⟨j + 1, r2, y2, by go_num, by omega, by omega, hzz, E4, hbel.trans hB, hc, hz, hl3, hl4⟩
                    case measure => simp [intOf]; omega

theorem cnt_to : ∀ n, CntTo n
  | 0 => fun _ h => absurd h (Nat.not_lt_zero _)
  | n + 1 => cnt_step n (cnt_to n)
end Go.Proofs.Ytcadeeldogknmaa
/- Count of any list. -/
namespace Go.Proofs.Ytcadeeldogknmaa
open Go.RowKit

set_option maxHeartbeats 1600000 in
theorem countClosure_any (l : Lf) (q : Option Addr) (cl N bl c : Nat) (w : World) (h : l.In w N q) (hN : N ≤ c) (hl : w.cell? ⟨bl, 0, none⟩ = some (.slice q l.len cl)) (hc : w.cell? ⟨c, 0, none⟩ = some (.int .i64 0)) (hz : w.frozen? ⟨c, 0, none⟩ = false) :
    Calls Try.prog 49 #[.pointer (some ⟨bl, 0, none⟩), .pointer (some ⟨c, 0, none⟩)] w (Counted c w (l.cnt 1 0)) := by
  have hmf : ∀ (fn : Fn) (first cap : Array Value) (w : World), (Instr.makeFunc fn first cap).run Try.prog w = .ok (.func fn first cap) w := fun _ _ _ _ => rfl
  have HW := Lib.hid (cnt_to (l.size + 1) l (Nat.lt_succ_self _) q cl N c 1 0 w h hN (by decide) hc hz (by decide) (by decide))
  clear h hc hz
  cases hR : l.cnt 1 0 with
  | ok x =>
    rw [hR] at HW
    go_enter Try.func49, Try.ntmps49
    go_wp2_with (go_at_call 28; refine HW.out.mono ?_; rintro e w1 ⟨rfl, hE⟩; have HE := Lib.hid hE; clear hE)
    go_end0
    exact ⟨rfl, HE.out⟩
  | error y =>
    rw [hR] at HW
    go_enter Try.func49, Try.ntmps49
    go_wp2_with (go_at_call 28; refine HW.out.mono ?_; rintro e w1 ⟨rfl, hE⟩; have HE := Lib.hid hE; clear hE)
    exact ⟨rfl, rfl, HE.out⟩
/-- how many there are, up to one more than there may be -/
def Lf.cnt0 (l : Lf) : Int := match l.cnt 1 0 with
  | .ok x => x
  | .error _ => 1000001
set_option maxHeartbeats 3200000 in
theorem count_any (l : Lf) (q : Option Addr) (cl N : Nat) (w : World) (h : l.In w N q) (hN : N ≤ w.heap.size) :
    Calls Try.prog 26 #[.slice q l.len cl] w fun e w' => e = .returned (.int .i64 l.cnt0) ∧ Below w.heap.size w w' := by
  have hmf : ∀ (fn : Fn) (first cap : Array Value) (w : World), (Instr.makeFunc fn first cap).run Try.prog w = .ok (.func fn first cap) w := fun _ _ _ _ => rfl
  obtain ⟨W1, hW1⟩ : ∃ W1, (w.alloc (.cells #[.slice q l.len cl] 23)).alloc (.cells #[.int .i64 0] 3) = W1 := ⟨_, rfl⟩
  have hs1 : W1.heap.size = w.heap.size + 2 := by rw [← hW1]; simp
  have hB1 : Below w.heap.size w W1 := by rw [← hW1]; exact ((Below.refl _ w).alloc (Nat.le_refl _) _).alloc (by simp) _
  have k0 : W1.cell? ⟨w.heap.size, 0, none⟩ = some (.slice q l.len cl) := by rw [← hW1]; simp [go_sem]
  have k1 : W1.cell? ⟨w.heap.size + 1, 0, none⟩ = some (.int .i64 0) := by rw [← hW1]; simp [go_sem]
  have z1 : W1.frozen? ⟨w.heap.size + 1, 0, none⟩ = false := by rw [← hW1]; simp [go_sem]
  obtain ⟨W2, hW2⟩ : ∃ W2, W1.alloc (.cells #[.int .i64 0] 28) = W2 := ⟨_, rfl⟩
  have hB2 : Below W1.heap.size W1 W2 := by rw [← hW2]; exact (Below.refl _ W1).alloc (Nat.le_refl _) _
  have e0 : W2.cell? ⟨W1.heap.size, 0, none⟩ = some (.int .i64 0) := by rw [← hW2]; simp [go_sem]
  have ez : W2.frozen? ⟨W1.heap.size, 0, none⟩ = false := by rw [← hW2]; simp [go_sem]
  have hs2 : W2.heap.size = W1.heap.size + 1 := by rw [← hW2]; simp
  have hdo := countClosure_any l q cl N w.heap.size (w.heap.size + 1) W2 (In_later h (hB1.trans (hB2.mono hB1.size)) hN) (by omega) ((hB2.cell (show w.heap.size < W1.heap.size by omega)).trans k0) ((hB2.cell (show w.heap.size + 1 < W1.heap.size by omega)).trans k1) ((World.frozen?_of_block (hB2.block (w.heap.size + 1) (by omega))).trans z1)
  have hcell : ∀ w1, BC (w.heap.size + 1) W2 w1 → (w1.cell? ⟨W1.heap.size, 0, none⟩ = some (.int .i64 0) ∧ w1.frozen? ⟨W1.heap.size, 0, none⟩ = false) ∧ Below w.heap.size w w1 := fun w1 hb =>
    ⟨⟨(hb.ch.cell (show W1.heap.size < _ by omega) (show W1.heap.size ≠ _ by omega) (by intro e; cases e)).trans e0, (World.frozen?_of_block (hb.ch.block W1.heap.size (by omega) (by omega) (by intro e; cases e))).trans ez⟩, (hB1.trans (hB2.mono hB1.size)).trans (hb.bel.mono (Nat.le_succ _))⟩
  obtain ⟨y, HC⟩ : ∃ y : Int, Hid (Calls Try.prog 22 #[.func (Fn.func 49) #[] #[.pointer (some ⟨w.heap.size, 0, none⟩), .pointer (some ⟨w.heap.size + 1, 0, none⟩)]] W1 fun e w' => e = .returned (.int .i64 y) ∧ ∃ x : Int, (if x ≤ 1000001 then x else 1000001) = l.cnt0 ∧ Below w.heap.size w w' ∧ w'.cell? ⟨w.heap.size + 1, 0, none⟩ = some (.int .i64 x)) := by
    rw [← hW2] at hdo
    have hset : ∀ (w1 : World) (u : Value), Below w.heap.size w w1 → Below w.heap.size w (w1.setCell ⟨W1.heap.size, 0, none⟩ u) := fun w1 u h => h.setCell (p := ⟨W1.heap.size, 0, none⟩) (show w.heap.size ≤ W1.heap.size by omega) u
    have hoth : ∀ (w1 : World) (u : Value), (w1.setCell ⟨W1.heap.size, 0, none⟩ u).cell? ⟨w.heap.size + 1, 0, none⟩ = w1.cell? ⟨w.heap.size + 1, 0, none⟩ := fun w1 u => World.cell?_setCell_other _ _ _ _ (fun e => by injection e with e; omega)
    rw [hW2] at hdo
    unfold Lf.cnt0
    cases hR : l.cnt 1 0 with
    | ok x =>
      rw [hR] at hdo
      rw [← hW2] at hdo hcell
      have HC := caught_count _ W1 none (fun w1 => Below w.heap.size w w1 ∧ w1.cell? ⟨w.heap.size + 1, 0, none⟩ = some (.int .i64 x) ∧ x ≤ 1000000) (hdo.mono fun e w1 h => by
        obtain ⟨rfl, hb, hc, _, _, hx⟩ := h
        exact ⟨rfl, (hcell w1 hb).1, (hcell w1 hb).2, hc, hx⟩)
      refine ⟨0, Lib.hid (HC.mono fun e w' h => ?_)⟩
      obtain ⟨rfl, w1, ⟨h1, h2, h3⟩, _, rfl⟩ := h
      exact ⟨rfl, x, if_pos (by omega), hset _ _ h1, (hoth _ _).trans h2⟩
    | error y =>
      rw [hR] at hdo
      rw [← hW2] at hdo hcell
      have HC := caught_count _ W1 (some 3) (fun w1 => ∃ x : Int, Below w.heap.size w w1 ∧ w1.cell? ⟨w.heap.size + 1, 0, none⟩ = some (.int .i64 x) ∧ 1000000 < x) (hdo.mono fun e w1 h => by
        obtain ⟨rfl, hb, x, hc, _, hx⟩ := h
        exact ⟨rfl, (hcell w1 hb).1, x, (hcell w1 hb).2, hc, hx⟩)
      refine ⟨3, Lib.hid (HC.mono fun e w' h => ?_)⟩
      obtain ⟨rfl, w1, ⟨x, h1, h2, h3⟩, _, rfl⟩ := h
      exact ⟨rfl, x, (show (if x ≤ 1000001 then x else 1000001) = 1000001 by split <;> omega), hset _ _ h1, (hoth _ _).trans h2⟩
  have HW1 := Lib.hid hW1
  clear h hdo hcell hW1 hW2 hs1 hB1 k0 k1 z1 hB2 e0 ez hs2
  go_enter Try.func26, Try.ntmps26
  go_wp2_with (go_at_call 22; rw [HW1.out]; refine HC.out.mono ?_; rintro e w1 ⟨rfl, x, hx, hB, hc⟩; have HB := Lib.hid hB; have HX := Lib.hid hx; clear hB hx)
  all_goals go_ret
  all_goals refine ⟨?_, HB.out⟩
  all_goals rw [← HX.out]
  all_goals first
    | (rw [if_pos (show x ≤ 1000001 from by omega)]; rfl)
    | (rw [if_neg (show ¬ x ≤ 1000001 from by omega)]; rfl)
end Go.Proofs.Ytcadeeldogknmaa
