/- Leakage that nests n deep: its first error. -/
import Derived.Test.YtaaglgchfhimaaaK2
namespace Go.Proofs.Ytaaglgchfhimaaa
open Go.RowKit

def tower : Nat → Lf
  | 0 => .nil
  | n + 1 => .node 2 [] true (.sub (tower n) .nil) .nil
theorem tower_len : ∀ n, (tower n).len = if n = 0 then 0 else 1
  | 0 => rfl
  | n + 1 => by simp [tower, Lf.len]
theorem tower_shaped : ∀ n, (tower n).shaped = true
  | 0 => rfl
  | n + 1 => by simp [tower, Lf.shaped, Ls.shaped, tower_shaped n, fieldsOk, Ls.len]
theorem tower_meas_ok : ∀ (n d : Nat) (x : Int), d + n ≤ 513 → (n : Int) ≤ x → (tower n).meas d x = .ok (x - n)
  | 0, _, x, _, _ => by simp [tower, Lf.meas]
  | n + 1, d, x, h, hx => by
    have ih := tower_meas_ok n (d + 1) (x - 1) (by omega) (by omega)
    simp only [tower, Lf.meas, Ls.meas, List.length_nil]
    rw [if_neg (by omega), if_neg (by omega)]
    simp only [Int.natCast_zero, Int.add_zero, ih]
    simp; omega
theorem tower_meas_bad : ∀ (n d : Nat) (x : Int), d ≤ 513 → 513 < d + n → (n : Int) ≤ x → (tower n).meas d x = .error 12
  | 0, d, x, h1, h2, _ => by omega
  | n + 1, d, x, h1, h2, hx => by
    simp only [tower, Lf.meas, Ls.meas, List.length_nil]
    by_cases hd : 512 < d
    · rw [if_pos hd]
    · have ih := tower_meas_bad n (d + 1) (x - 1) (by omega) (by omega) (by omega)
      rw [if_neg hd, if_neg (by omega)]
      simp only [Int.natCast_zero, Int.add_zero, ih]
theorem tower512 : (tower 512).check = 0 := by
  unfold Lf.check
  rw [tower_meas_ok 512 1 1000000 (by omega) (by omega), tower_shaped]
  rfl
theorem tower513 : (tower 513).check = 12 := by
  unfold Lf.check
  rw [tower_meas_bad 513 1 1000000 (by omega) (by omega) (by omega)]
  rfl

set_option maxHeartbeats 3200000 in
theorem Rewrite_bad (l : Lf) (p q : Option Addr) (nt ct cap N : Nat) (st : Int) (br : Bool) (w : World) (h : l.In w N p) (hN : N ≤ w.heap.size) (hc : (l.check == 0) = false) :
    Calls Try.prog 22 #[.slice q nt ct, .slice p l.len cap, .int .u64 st, .bool br] w fun e w1 => e = .returned (.tuple #[.slice none 0 0, .int .i64 l.check]) ∧ Below w.heap.size w w1 := by
  have HM := Lib.hid (fun (w1 : World) (hb : Below w.heap.size w w1) => check_any l p cap N w1 (In_later h hb hN) (Nat.le_trans hN hb.size))
  have HA := Lib.hid (fun (o1 o2 o3 : Obj) => (((Below.refl _ w).alloc (Nat.le_refl _) o1).alloc (by simp) o2).alloc (by simp; omega) o3)
  clear h
  obtain ⟨C, hC⟩ : ∃ C, C = l.check := ⟨_, rfl⟩
  rw [← hC] at HM hc ⊢
  clear hC
  have hc' : (C != 0) = true := by simp [bne, hc]
  go_enter Try.func22, Try.ntmps22
  go_wp2_with (go_at_call 37; refine (HM.out _ (HA.out _ _ _)).mono ?_; rintro e w1 ⟨rfl, hB⟩; have HB := Lib.hid ((HA.out _ _ _).trans (hB.mono (by simp; omega))); clear hB)
  go_ret2
  exact ⟨rfl, HB.out⟩

def up (u : World) (p : Option Addr) (n c : Nat) : World := (u.alloc (Obj.cells #[.slice p n c] 25)).alloc (Obj.cells #[.int .i64 2, .slice none 0 0, .bool true, .slice (some ⟨u.heap.size, 0, none⟩) 1 1] 33)
theorem up_size (u : World) (p : Option Addr) (n c : Nat) : (up u p n c).heap.size = u.heap.size + 2 := by simp [up]
theorem up_bel (u : World) (p : Option Addr) (n c : Nat) : Below u.heap.size u (up u p n c) := ((Below.refl _ u).alloc (Nat.le_refl _) _).alloc (by simp) _
theorem up_in {u : World} {p : Option Addr} {c : Nat} (T : Lf) (h : T.In u u.heap.size p) : (Lf.node 2 [] true (.sub T .nil) .nil).In (up u p T.len c) (up u p T.len c).heap.size (some ⟨u.heap.size + 1, 0, none⟩) := by
  have hs := up_size u p T.len c
  have hk := h.later (up_bel u p T.len c) (up_bel u p T.len c).size
  exact ⟨by simp [Lf.len], .inr ⟨_, _, rfl, by omega, by simp [up, go_sem], ⟨none, 0, by simp [up, go_sem], by decide, .inl rfl⟩, by simp [up, go_sem], ⟨some ⟨u.heap.size, 0, none⟩, 1, by simp [up, go_sem, Ls.len], by simp [Ls.len], .inr ⟨_, _, rfl, by omega, ⟨p, c, by simp [up, go_sem], hk⟩, trivial⟩⟩, trivial⟩⟩

set_option maxRecDepth 100000 in
set_option maxHeartbeats 3200000 in
theorem deep_any (w : World) : Calls Try.prog 5 #[] w fun e w' => e = .returned (.bool true) ∧ Below w.heap.size w w' := by
  go_enter Try.func5, Try.ntmps5
  go_wp2_with fail
  go_loopw [1, 2] (fun v i wr => ∃ (k : Nat) (T : Lf) (p : Option Addr) (c : Nat), v = .slice p T.len c ∧ i = .int .i64 k ∧ k ≤ 512 ∧ Hid (T = tower k ∧ T.In wr wr.heap.size p ∧ Below w.heap.size w wr))
    (fun _ i _ => 512 - (intOf i).toNat)
  case atStart => exact ⟨0, .nil, none, 0, rfl, rfl, by omega, Lib.hid ⟨rfl, Lf.In.nil _ _ _, Below.refl _ _⟩⟩
  case round =>
    obtain ⟨k, T, p, c, rfl, rfl, hk, hT⟩ := hrel
    by_cases hlt : k < 512
    · have HU := Lib.hid (show (Lf.node 2 [] true (.sub T .nil) .nil) = tower (k + 1) ∧ (Lf.node 2 [] true (.sub T .nil) .nil).In (up wr p T.len c) (up wr p T.len c).heap.size (some ⟨wr.heap.size + 1, 0, none⟩) ∧ Below w.heap.size w (up wr p T.len c) from
        ⟨by rw [hT.out.1]; rfl, up_in T hT.out.2.1, hT.out.2.2.trans ((up_bel wr p T.len c).mono hT.out.2.2.size)⟩)
      go_wp2_with fail
      go_roundw
      case rel => exact ⟨k + 1, Lf.node 2 [] true (.sub T .nil) .nil, some ⟨wr.heap.size + 1, 0, none⟩, 1, rfl, by go_num, by omega, HU⟩
      case measure => simp [intOf]; omega
    · obtain rfl : k = 512 := by omega
      have hc0 : T.check = 0 := by rw [hT.out.1]; exact tower512
      have hc1 : (Lf.node 2 [] true (.sub T .nil) .nil).check = 12 := by rw [hT.out.1]; exact tower513
      have HF := Lib.hid (Flat_ok T p c wr.heap.size wr hT.out.2.1 (Nat.le_refl _) hc0)
      have HM := Lib.hid (fun (w1 : World) (hb : Below wr.heap.size wr w1) => may_any T p c wr.heap.size w1 (hT.out.2.1.later hb (Nat.le_refl _)) hb.size)
      rw [hc0] at HM
      have HU := Lib.hid (fun (u : World) (hb : Below wr.heap.size wr u) => up_in (c := c) T (hT.out.2.1.later hb hb.size))
      obtain ⟨T2, hT2⟩ : ∃ T2, T2 = Lf.node 2 [] true (.sub T .nil) .nil := ⟨_, rfl⟩
      have hl2 : T2.len = 1 := by rw [hT2]; rfl
      rw [← hT2] at hc1 HU
      have hl2' : (T2.check == 0) = false := by rw [hc1]; rfl
      have HFB := Lib.hid (show ∀ u : World, Below wr.heap.size wr u → Calls Try.prog 19 #[.slice (some ⟨u.heap.size + 1, 0, none⟩) 1 1] (up u p T.len c) fun e w1 => e = .returned (.tuple #[.slice none 0 0, .int .i64 12]) ∧ Below (up u p T.len c).heap.size (up u p T.len c) w1 from fun u hb => by
        have h := Flat_bad T2 (some ⟨u.heap.size + 1, 0, none⟩) 1 _ (up u p T.len c) (HU.out u hb) (Nat.le_refl _) hl2'
        rw [hl2, hc1] at h; exact h)
      have HRB := Lib.hid (show ∀ u : World, Below wr.heap.size wr u → ∀ w1, Below (up u p T.len c).heap.size (up u p T.len c) w1 → Calls Try.prog 22 #[.slice none 0 0, .slice (some ⟨u.heap.size + 1, 0, none⟩) 1 1, .int .u64 0, .bool true] w1 fun e w2 => e = .returned (.tuple #[.slice none 0 0, .int .i64 12]) ∧ Below w1.heap.size w1 w2 from fun u hb w1 hb1 => by
        have h := Rewrite_bad T2 (some ⟨u.heap.size + 1, 0, none⟩) none 0 0 1 w1.heap.size 0 true w1 ((HU.out u hb).later hb1 hb1.size) (Nat.le_refl _) hl2'
        rw [hl2, hc1] at h; exact h)
      have HMB := Lib.hid (show ∀ u : World, Below wr.heap.size wr u → ∀ w1, Below (up u p T.len c).heap.size (up u p T.len c) w1 → Calls Try.prog 21 #[.slice (some ⟨u.heap.size + 1, 0, none⟩) 1 1] w1 fun e w2 => e = .returned (.bool false) ∧ Below w1.heap.size w1 w2 from fun u hb w1 hb1 => by
        have h := may_any T2 (some ⟨u.heap.size + 1, 0, none⟩) 1 w1.heap.size w1 ((HU.out u hb).later hb1 hb1.size) (Nat.le_refl _)
        rw [hl2, hl2'] at h; exact h)
      have HB := Lib.hid hT.out.2.2
      clear hc0 hc1 hT2 hT hlt hk hl2 hl2' HU
      go_wp2_with fail
      refine HF.out.mono ?_
      rintro e w1 ⟨v, rfl, hb1, _⟩
      go_wp2_with fail
      refine (HM.out _ hb1).mono ?_
      rintro e w2 ⟨rfl, hb2⟩
      have hb12 := hb1.trans (hb2.mono hb1.size)
      have H12 := Lib.hid hb12
      clear hb1 hb2 hb12
      go_wp2_with fail
      refine (HFB.out w2 H12.out).mono ?_
      rintro e w3 ⟨rfl, hb3⟩
      have H3 := Lib.hid hb3
      clear hb3
      go_wp2_with fail
      refine (HRB.out w2 H12.out w3 H3.out).mono ?_
      rintro e w4 ⟨rfl, hb4⟩
      have H4 := Lib.hid (H3.out.trans (hb4.mono H3.out.size))
      clear hb4
      go_wp2_with fail
      refine (HMB.out w2 H12.out w4 H4.out).mono ?_
      rintro e w5 ⟨rfl, hb5⟩
      have H5 := Lib.hid (H4.out.trans (hb5.mono H4.out.size))
      clear hb5
      go_wp2_with fail
      refine (known_any _).mono ?_
      rintro e w6 ⟨rfl, hb6⟩
      have H6 := Lib.hid (HB.out.trans ((H12.out.trans (((up_bel w2 p T.len c).trans ((H5.out.trans (hb6.mono H5.out.size)).mono (up_bel w2 p T.len c).size)).mono H12.out.size)).mono HB.out.size))
      clear hb6
      go_wp2_with fail
      go_ret
      exact ⟨rfl, H6.out⟩
end Go.Proofs.Ytaaglgchfhimaaa
