/- Rewrite of any leakage by any terms. -/
import Derived.Test.YtcadeeldogknmaaZS
import Derived.Test.YtcadeeldogknmaaZU
namespace Go.Proofs.Ytcadeeldogknmaa
open Go.RowKit

theorem check_shaped {l : Lf} (h : l.check = 0) : l.shaped = true := by
  unfold Lf.check at h
  cases hm : l.meas 1 1000000 with
  | ok x =>
    simp only [hm, errOf] at h
    cases hs : l.shaped with
    | true => rfl
    | false => rw [hs] at h; simp at h
  | error y =>
    simp only [hm, errOf] at h
    rcases Lf.meas_err l 1 1000000 y hm with rfl | rfl <;> cases h
theorem cnt0_le (l : Lf) : l.cnt0 ≤ 1000001 ∨ 1000001 ≤ l.cnt0 := by omega
/-- what a rewriting answers -/
def rwP (st : Int) (t : Tf) (l : Lf) (br : Bool) : Int × Lf :=
  if l.check = 0 then
    if t.okT = true then
      match l.rw st t.rc br 0 with
      | none => (2, .nil)
      | some (x, m) => if 1000000 < m then (3, .nil) else if 1000000 < x.cnt0 then (3, .nil) else (0, x)
    else (2, .nil)
  else (l.check, .nil)
def RwOut (r : Int × Lf) (w : World) (e : Ending) (w' : World) : Prop :=
  ∃ qx cx, e = .returned (.tuple #[.slice qx r.2.len cx, .int .i64 r.1]) ∧ r.2.In w' w'.heap.size qx ∧ r.2.len ≤ cx ∧ Below w.heap.size w w'
theorem RwOut.bad {k : Int} {w w' : World} (h : Below w.heap.size w w') : RwOut (k, .nil) w (.returned (.tuple #[.slice none 0 0, .int .i64 k])) w' :=
  ⟨none, 0, rfl, ⟨by simp [Lf.len], .inl rfl⟩, Nat.le_refl _, h⟩
/-- what is left behind the closure -/
def AfterC (w3 : World) (R : Option (Lf × Nat)) (e : Ending) (w7 : World) : Prop :=
  match R with
  | some (x, m) => e = .returned (.int .i64 0) ∧ Below w3.heap.size w3 w7 ∧ w7.cell? ⟨w3.heap.size, 2, none⟩ = some (.int .i64 m) ∧ ∃ q c, w7.cell? ⟨w3.heap.size + 1, 0, none⟩ = some (.slice q x.len c) ∧ x.In w7 w7.heap.size q ∧ x.len ≤ c
  | none => e = .returned (.int .i64 2) ∧ Below w3.heap.size w3 w7
theorem own_cap {w : World} {base : Nat} {x : Lf} {q : Option Addr} {c : Nat} (h : OutL w base (.slice q x.len c) x) : x.len ≤ c := by
  obtain ⟨news, S, ⟨_, ⟨h, h0⟩ | ⟨g', cap, cur, hv, _, _, hnc, _⟩⟩, _⟩ := h
  · omega
  · cases hv; exact hnc
theorem caught_w3 (t : Tf) (l : Lf) (p q : Option Addr) (ct cl : Nat) (br : Bool) (N n m : Nat) (st : Int) (w3 : World) (hT : t.In w3 N p) (hL : l.In w3 N q) (hN : N ≤ w3.heap.size) (hm : w3.heap[m]? = some (fmap deedT))
    (t0 : w3.cell? ⟨n, 0, none⟩ = some (.slice p t.len ct)) (l0 : w3.cell? ⟨n + 1, 0, none⟩ = some (.slice q l.len cl)) (b0 : w3.cell? ⟨n + 1 + 1, 0, none⟩ = some (.bool br))
    (hcap : ∀ b o, p = some ⟨b, o, none⟩ → t.Cap (cutN N w3) b o) (hsz : t.size ≤ 1073741824) (hok : t.rok) (htf : t.rc.fine) (hs : l.shaped = true) (hw : l.wt ≤ 1073741824) :
    Calls Try.prog 22 #[.func (Fn.func 23) #[] #[.pointer (some ⟨w3.heap.size, 0, none⟩), .pointer (some ⟨n, 0, none⟩), .pointer (some ⟨n + 1, 0, none⟩), .pointer (some ⟨n + 1 + 1, 0, none⟩), .pointer (some ⟨w3.heap.size + 1, 0, none⟩)]] ((w3.alloc (Obj.cells #[.int .u64 st, .map (some m), .int .i64 0] 64)).alloc (Obj.cells #[.slice none 0 0] 23)) (AfterC w3 (l.rw st t.rc br 0)) := by
  have hB : Below w3.heap.size w3 ((w3.alloc (Obj.cells #[.int .u64 st, .map (some m), .int .i64 0] 64)).alloc (Obj.cells #[.slice none 0 0] 23)) := ((Below.refl _ w3).alloc (Nat.le_refl _) _).alloc (by simp) _
  have hsz2 : ((w3.alloc (Obj.cells #[.int .u64 st, .map (some m), .int .i64 0] 64)).alloc (Obj.cells #[.slice none 0 0] 23)).heap.size = w3.heap.size + 2 := by simp
  have hml : m < w3.heap.size := lt_blk hm
  have k : ∀ b o v, w3.cell? ⟨b, o, none⟩ = some v → ((w3.alloc (Obj.cells #[.int .u64 st, .map (some m), .int .i64 0] 64)).alloc (Obj.cells #[.slice none 0 0] 23)).cell? ⟨b, o, none⟩ = some v := fun b o v h => (hB.cell (World.block_lt_of_cell? _ _ h)).trans h
  have r0 : RwS ((w3.alloc (Obj.cells #[.int .u64 st, .map (some m), .int .i64 0] 64)).alloc (Obj.cells #[.slice none 0 0] 23)) w3.heap.size st m 0 := ⟨by simp [go_sem], by simp [go_sem], by simp [go_sem], by simp [go_sem]⟩
  have o0 : ((w3.alloc (Obj.cells #[.int .u64 st, .map (some m), .int .i64 0] 64)).alloc (Obj.cells #[.slice none 0 0] 23)).cell? ⟨w3.heap.size + 1, 0, none⟩ = some (.slice none 0 0) := by simp [go_sem]
  have z0 : ((w3.alloc (Obj.cells #[.int .u64 st, .map (some m), .int .i64 0] 64)).alloc (Obj.cells #[.slice none 0 0] 23)).frozen? ⟨w3.heap.size + 1, 0, none⟩ = false := by simp [go_sem]
  generalize (w3.alloc (Obj.cells #[.int .u64 st, .map (some m), .int .i64 0] 64)).alloc (Obj.cells #[.slice none 0 0] 23) = Wc at *
  have hE : Below Wc.heap.size Wc (Wc.alloc (.cells #[.int .i64 0] 28)) := (Below.refl _ Wc).alloc (Nat.le_refl _) _
  have hBE := hB.trans (hE.mono hB.size)
  have hsE : (Wc.alloc (.cells #[.int .i64 0] 28)).heap.size = Wc.heap.size + 1 := by simp
  have hbx : ∀ x m', l.rw st t.rc br 0 = some (x, m') → x.len ≤ 140737488355328 := fun x m' h => by
    have h1 := (rw_bnd (go_bnd st l t.rc br 0 htf) x m' h).1
    have h2 := cap6_le m'
    have h3 := Lf.len_wt x
    omega
  refine (caught_any t l p q ct cl br N w3.heap.size m n (n + 1) (n + 1 + 1) (w3.heap.size + 1) st Wc r0 ((hB.block m hml).trans hm) (by omega) hN (k _ _ _ t0) (k _ _ _ l0) (k _ _ _ b0) o0 z0 (by omega)
    (Tf.In_later hT hB hN) (In_later hL hB hN) (fun b o e => Tf.Cap.congr (fun b o => cutN_cell (hB.mono hN) b o) t b o (hcap b o e)) hsz hok htf hs hw).mono fun e w7 h => ?_
  unfold C1End at h
  unfold AfterC
  cases hR : l.rw st t.rc br 0 with
  | none =>
    rw [hR] at h
    obtain ⟨rfl, w1, h2, rfl⟩ := h
    have hb1 := hBE.trans (h2.below (B := w3.heap.size) (by omega) (Nat.le_refl _) (by intro k e; cases e))
    exact ⟨rfl, hb1.setCell (p := ⟨Wc.heap.size, 0, none⟩) (show w3.heap.size ≤ Wc.heap.size by omega) _⟩
  | some r =>
    obtain ⟨x, m'⟩ := r
    rw [hR] at h
    obtain ⟨rfl, w1, q5, c5, lo, h1, h2, h3, h4, rfl⟩ := h
    have hb1 := hBE.trans (h2.below (B := w3.heap.size) (by omega) (Nat.le_refl _) (by intro k e; cases e))
    have hb := (hb1.setCell (p := ⟨w3.heap.size + 1, 0, none⟩) (show w3.heap.size ≤ w3.heap.size + 1 by omega) (.slice q5 x.len c5)).setCell (p := ⟨Wc.heap.size, 0, none⟩) (show w3.heap.size ≤ Wc.heap.size by omega) (.int .i64 0)
    have ho : w1.cell? ⟨w3.heap.size + 1, 0, none⟩ = some (.slice none 0 0) := (h2.cell (show w3.heap.size + 1 < _ by omega) (show w3.heap.size + 1 ≠ w3.heap.size by omega) (by intro e; cases e)).trans ((hE.cell (show w3.heap.size + 1 < Wc.heap.size by omega)).trans o0)
    obtain ⟨p', c', T, hv, hin, hT'⟩ := OutL.in h4 (hbx x m' hR)
    have hcap' := own_cap h4
    cases hv
    refine ⟨rfl, hb, ?_, q5, c5, ?_, ?_, hcap'⟩
    · exact (World.cell?_setCell_other _ _ _ _ (fun e => by injection e with e; omega)).trans ((World.cell?_setCell_other _ _ _ _ (fun e => by injection e with e; omega)).trans h3.c2)
    · exact (World.cell?_setCell_other _ _ _ _ (fun e => by injection e with e; omega)).trans (World.cell?_setCell_same _ _ _ ho)
    · refine hin.le (fun b o v hbv => ?_) (by simp [World.setCell])
      obtain ⟨e1, e2⟩ := cell_cut_some hbv
      have := hT' b e1
      exact (World.cell?_setCell_other _ _ _ _ (fun e => by injection e with e; omega)).trans ((World.cell?_setCell_other _ _ _ _ (fun e => by injection e with e; omega)).trans e2)

set_option maxRecDepth 100000 in
set_option maxHeartbeats 3200000 in
theorem rewrite_any (t : Tf) (l : Lf) (p q : Option Addr) (ct cl : Nat) (br : Bool) (N : Nat) (st : Int) (w : World) (hT : t.In w N p) (hL : l.In w N q) (hN : N ≤ w.heap.size)
    (hcap : ∀ b o, p = some ⟨b, o, none⟩ → t.Cap (cutN N w) b o) (hd : t.deep ≤ 512) (hc : t.len + t.under ≤ 1000000) (htw : t.weight ≤ 1048576) (hsz : t.size ≤ 1073741824) (hw : l.wt ≤ 1073741824) :
    Calls Try.prog 9 #[.slice p t.len ct, .slice q l.len cl, .int .u64 st, .bool br] w (RwOut (rwP st t l br) w) := by
  have hmf : ∀ (fn : Fn) (first cap : Array Value) (w : World), (Instr.makeFunc fn first cap).run Try.prog w = .ok (.func fn first cap) w := fun _ _ _ _ => rfl
  have HC := Lib.hid (fun (w1 : World) (hb : Below w.heap.size w w1) => check_any l q cl N w1 (In_later hL hb hN) (Nat.le_trans hN hb.size))
  have HT := Lib.hid (fun (w1 : World) (hb : Below w.heap.size w w1) => terms_any t p ct N w1 (Tf.In_later hT hb hN) (Nat.le_trans hN hb.size) hd hc)
  have HA := Lib.hid (fun (o1 o2 o3 : Obj) => (((Below.refl _ w).alloc (Nat.le_refl _) o1).alloc (by simp) o2).alloc (by simp; omega) o3)
  have CELLS := Lib.hid (show ∀ w1, Below (((w.alloc (Obj.cells #[.slice p t.len ct] 22)).alloc (Obj.cells #[.slice q l.len cl] 23)).alloc (Obj.cells #[.bool br] 4)).heap.size (((w.alloc (Obj.cells #[.slice p t.len ct] 22)).alloc (Obj.cells #[.slice q l.len cl] 23)).alloc (Obj.cells #[.bool br] 4)) w1 → (w1.cell? ⟨w.heap.size, 0, none⟩ = some (.slice p t.len ct) ∧ w1.cell? ⟨w.heap.size + 1, 0, none⟩ = some (.slice q l.len cl) ∧ w1.cell? ⟨w.heap.size + 1 + 1, 0, none⟩ = some (.bool br)) ∧ Below w.heap.size w w1 ∧ w.heap.size + 3 ≤ w1.heap.size from
    fun w1 hb => ⟨⟨(hb.cell (by simp; omega)).trans (by simp [go_sem]), (hb.cell (by simp)).trans (by simp [go_sem]), (hb.cell (by simp)).trans (by simp [go_sem])⟩, (HA.out _ _ _).trans (hb.mono (by simp; omega)), by have := hb.size; simp at this; omega⟩)
  have CA0 := fun (hok : t.okT = true) (hs : l.shaped = true) (m : Nat) (w3 : World) (hb : Below w.heap.size w w3) => caught_w3 t l p q ct cl br N w.heap.size m st w3 (Tf.In_later hT hb hN) (In_later hL hb hN) (Nat.le_trans hN hb.size)
  have CA := Lib.hid (fun (hok : t.okT = true) (hs : l.shaped = true) (m : Nat) (w3 : World) (hb : Below w.heap.size w w3) hm t0 l0 b0 => CA0 hok hs m w3 hb hm t0 l0 b0 (fun b o e => Tf.Cap.congr (fun b o => cutN_cell (hb.mono hN) b o) t b o (hcap b o e)) hsz (Tf.fine_of t hok htw).1 (Tf.fine_of t hok htw).2 hs hw)
  clear CA0 hT hL hcap hd hc htw hsz hw

  by_cases e1 : l.check = 0
  · have hs := check_shaped e1
    rw [e1] at HC
    cases e2 : t.okT with
    | false =>
      rw [show rwP st t l br = (2, .nil) by unfold rwP; rw [if_pos e1, if_neg (by rw [e2]; simp)]]
      rw [e2] at HT
      clear CA e1 e2
      go_enter Try.func9, Try.ntmps9
      go_wp2_with (first | (go_at_call 19; refine (HC.out _ (HA.out _ _ _)).mono ?_; rintro e w1 ⟨rfl, hb1⟩; obtain ⟨⟨t0, l0, b0⟩, hB1, hs1⟩ := CELLS.out _ hb1) | (go_at_call 20; refine (HT.out _ hB1).mono ?_; rintro e w2 ⟨rfl, hb2⟩; have hb12 := hb1.trans (hb2.mono hb1.size); obtain ⟨⟨t1, l1, b1⟩, hB2, hs2⟩ := CELLS.out _ hb12))
      go_ret2
      exact RwOut.bad hB2
    | true =>
      replace CA := Lib.hid (CA.out e2 hs)
      cases hR : l.rw st t.rc br 0 with
      | none =>
        rw [show rwP st t l br = (2, .nil) by unfold rwP; rw [if_pos e1, if_pos e2, hR]]
        rw [e2] at HT
        rw [hR] at CA
        clear e1 e2 hR hs
        go_enter Try.func9, Try.ntmps9
        go_wp2_with (first | (go_at_call 19; refine (HC.out _ (HA.out _ _ _)).mono ?_; rintro e w1 ⟨rfl, hb1⟩; obtain ⟨⟨t0, l0, b0⟩, hB1, hs1⟩ := CELLS.out _ hb1) | (go_at_call 20; refine (HT.out _ hB1).mono ?_; rintro e w2 ⟨rfl, hb2⟩; have hb12 := hb1.trans (hb2.mono hb1.size); obtain ⟨⟨t1, l1, b1⟩, hB2, hs2⟩ := CELLS.out _ hb12) | (go_at_call 21; refine (deeds_any _).mono ?_; rintro e w3 ⟨m0, rfl, hm, hmb, hb3⟩; have HM := Lib.hid hm; clear hm; have hb13 := hb12.trans (hb3.mono hb12.size); obtain ⟨⟨t2, l2, b2⟩, hB3, hs3⟩ := CELLS.out _ hb13) | (go_at_call 22; refine (CA.out m0 w3 hB3 HM.out t2 l2 b2).mono ?_; rintro e w7 ⟨rfl, hB7⟩; have HBE := Lib.hid (hB3.trans (hB7.mono hB3.size)); clear hB7))
        go_ret2
        exact RwOut.bad HBE.out
      | some r =>
        obtain ⟨x, m⟩ := r
        obtain ⟨M, hM⟩ : ∃ M : Int, M = (m : Int) := ⟨_, rfl⟩
        have hP : rwP st t l br = if 1000000 < M then (3, .nil) else if 1000000 < x.cnt0 then (3, .nil) else (0, x) := by
          unfold rwP; rw [if_pos e1, if_pos e2, hR]
          by_cases h : 1000000 < m
          · rw [if_pos (show 1000000 < M by omega)]; exact if_pos h
          · rw [if_neg (show ¬ 1000000 < M by omega)]; exact if_neg h
        rw [hP]
        clear hP
        rw [e2] at HT
        rw [hR] at CA
        unfold AfterC at CA
        simp only [← hM] at CA
        obtain ⟨X, hX⟩ : ∃ X : Int, x.cnt0 = X := ⟨_, rfl⟩
        rw [hX]
        have HX := Lib.hid hX
        clear e1 e2 hR hs hM hX
        by_cases h1 : 1000000 < M
        · rw [if_pos h1]
          go_enter Try.func9, Try.ntmps9
          go_wp2_with (first | (go_at_call 19; refine (HC.out _ (HA.out _ _ _)).mono ?_; rintro e w1 ⟨rfl, hb1⟩; obtain ⟨⟨t0, l0, b0⟩, hB1, hs1⟩ := CELLS.out _ hb1) | (go_at_call 20; refine (HT.out _ hB1).mono ?_; rintro e w2 ⟨rfl, hb2⟩; have hb12 := hb1.trans (hb2.mono hb1.size); obtain ⟨⟨t1, l1, b1⟩, hB2, hs2⟩ := CELLS.out _ hb12) | (go_at_call 21; refine (deeds_any _).mono ?_; rintro e w3 ⟨m0, rfl, hm, hmb, hb3⟩; have HM := Lib.hid hm; clear hm; have hb13 := hb12.trans (hb3.mono hb12.size); obtain ⟨⟨t2, l2, b2⟩, hB3, hs3⟩ := CELLS.out _ hb13) | (go_at_call 22; refine (CA.out m0 w3 hB3 HM.out t2 l2 b2).mono ?_; rintro e w7 ⟨rfl, hB7, r2, q7, c7, o0, hin, hcx⟩; have HIN := Lib.hid (And.intro hin hcx); have HBE := Lib.hid (hB3.trans (hB7.mono hB3.size)); clear hB7 hin hcx))
          go_ret2
          exact RwOut.bad HBE.out
        · rw [if_neg h1]
          by_cases h2 : 1000000 < X
          · rw [if_pos h2]
            go_enter Try.func9, Try.ntmps9
            go_wp2_with (first | (go_at_call 19; refine (HC.out _ (HA.out _ _ _)).mono ?_; rintro e w1 ⟨rfl, hb1⟩; obtain ⟨⟨t0, l0, b0⟩, hB1, hs1⟩ := CELLS.out _ hb1) | (go_at_call 20; refine (HT.out _ hB1).mono ?_; rintro e w2 ⟨rfl, hb2⟩; have hb12 := hb1.trans (hb2.mono hb1.size); obtain ⟨⟨t1, l1, b1⟩, hB2, hs2⟩ := CELLS.out _ hb12) | (go_at_call 21; refine (deeds_any _).mono ?_; rintro e w3 ⟨m0, rfl, hm, hmb, hb3⟩; have HM := Lib.hid hm; clear hm; have hb13 := hb12.trans (hb3.mono hb12.size); obtain ⟨⟨t2, l2, b2⟩, hB3, hs3⟩ := CELLS.out _ hb13) | (go_at_call 22; refine (CA.out m0 w3 hB3 HM.out t2 l2 b2).mono ?_; rintro e w7 ⟨rfl, hB7, r2, q7, c7, o0, hin, hcx⟩; have HIN := Lib.hid (And.intro hin hcx); have HBE := Lib.hid (hB3.trans (hB7.mono hB3.size)); clear hB7 hin hcx) | (go_at_call 26; refine (count_any x q7 c7 _ _ HIN.out.1 (Nat.le_refl _)).mono ?_; rintro e w8 ⟨he8, hB8⟩; rw [HX.out] at he8; subst he8; have o1 := (hB8.cell (World.block_lt_of_cell? _ _ o0)).trans o0))
            go_ret2
            exact RwOut.bad (HBE.out.trans (hB8.mono HBE.out.size))
          · rw [if_neg h2]
            go_enter Try.func9, Try.ntmps9
            go_wp2_with (first | (go_at_call 19; refine (HC.out _ (HA.out _ _ _)).mono ?_; rintro e w1 ⟨rfl, hb1⟩; obtain ⟨⟨t0, l0, b0⟩, hB1, hs1⟩ := CELLS.out _ hb1) | (go_at_call 20; refine (HT.out _ hB1).mono ?_; rintro e w2 ⟨rfl, hb2⟩; have hb12 := hb1.trans (hb2.mono hb1.size); obtain ⟨⟨t1, l1, b1⟩, hB2, hs2⟩ := CELLS.out _ hb12) | (go_at_call 21; refine (deeds_any _).mono ?_; rintro e w3 ⟨m0, rfl, hm, hmb, hb3⟩; have HM := Lib.hid hm; clear hm; have hb13 := hb12.trans (hb3.mono hb12.size); obtain ⟨⟨t2, l2, b2⟩, hB3, hs3⟩ := CELLS.out _ hb13) | (go_at_call 22; refine (CA.out m0 w3 hB3 HM.out t2 l2 b2).mono ?_; rintro e w7 ⟨rfl, hB7, r2, q7, c7, o0, hin, hcx⟩; have HIN := Lib.hid (And.intro hin hcx); have HBE := Lib.hid (hB3.trans (hB7.mono hB3.size)); clear hB7 hin hcx) | (go_at_call 26; refine (count_any x q7 c7 _ _ HIN.out.1 (Nat.le_refl _)).mono ?_; rintro e w8 ⟨he8, hB8⟩; rw [HX.out] at he8; subst he8; have o1 := (hB8.cell (World.block_lt_of_cell? _ _ o0)).trans o0))
            go_ret2
            exact ⟨q7, c7, rfl, HIN.out.1.later hB8 hB8.size, HIN.out.2, HBE.out.trans (hB8.mono HBE.out.size)⟩
  · rw [show rwP st t l br = (l.check, .nil) by unfold rwP; rw [if_neg e1]]
    obtain ⟨C, hC⟩ : ∃ C, C = l.check := ⟨_, rfl⟩
    rw [← hC] at HC e1 ⊢
    clear hC CA
    have hc' : (C != 0) = true := by simp [bne, e1]
    go_enter Try.func9, Try.ntmps9
    go_wp2_with (first | (go_at_call 19; refine (HC.out _ (HA.out _ _ _)).mono ?_; rintro e w1 ⟨rfl, hb1⟩; obtain ⟨⟨t0, l0, b0⟩, hB1, hs1⟩ := CELLS.out _ hb1))
    go_ret2
    exact RwOut.bad hB1
end Go.Proofs.Ytcadeeldogknmaa
