/- The program's: two leakages are the same. -/
import Derived.Test.YtdigkdfkaikagaaP1
namespace Go.Proofs.Ytdigkdfkaikagaa
open Go.RowKit

noncomputable def Ls.same (l m : Ls) : Bool := @decide (l = m) (Classical.propDecidable _)
theorem Ls.same_true {l m : Ls} (h : l = m) : true = l.same m := by unfold Ls.same; exact (@decide_eq_true _ (Classical.propDecidable _) h).symm
theorem Ls.same_false {l m : Ls} (h : ¬ l = m) : false = l.same m := by unfold Ls.same; exact (@decide_eq_false _ (Classical.propDecidable _) h).symm
def PSame (n : Nat) : Prop := ∀ (l m : Lf), l.size < n → ∀ (p q : Option Addr) (cp cq N : Nat) (w : World), l.In w N p → m.In w N q → N ≤ w.heap.size →
    Calls Try.prog 17 #[.slice p l.len cp, .slice q m.len cq] w fun e w' => e = .returned (.bool (l.same m)) ∧ Below w.heap.size w w'

set_option maxHeartbeats 3200000 in
theorem eqLs_any (n : Nat) (ih : PSame n) (s z : Ls) (hs : s.size ≤ n) (p q : Option Addr) (cp cq N : Nat) (w : World) (h1 : s.In w N p) (h2 : z.In w N q) (hN : N ≤ w.heap.size) :
    Calls Try.prog 44 #[.slice p s.len cp, .slice q z.len cq, .func (Fn.func 17) #[] #[]] w fun e w' => e = .returned (.bool (s.same z)) ∧ Below w.heap.size w w' := by
  have IH := Lib.hid ih
  have S1 := Lib.hid h1
  have S2 := Lib.hid h2
  have hm1 := h1.1
  have hm2 := h2.1
  clear h1 h2 ih
  by_cases hl : s.len = z.len
  · have HL := Lib.hid hl
    have hl' : ((s.len : Int) != (z.len : Int)) = false := by simp [hl]
    clear hl
    go_enter Try.func44, Try.ntmps44
    go_wp2_with fail
    go_loopw [17] (fun i wr => ∃ (j : Nat) (y y' : Ls), i = .int .i64 j ∧ j + y.len = s.len ∧ j + y'.len = z.len ∧ y.size ≤ s.size ∧ Hid (∀ b o, p = some ⟨b, o, none⟩ → s.At w N b o → y.At w N b (o + j)) ∧ Hid (∀ b o, q = some ⟨b, o, none⟩ → z.At w N b o → y'.At w N b (o + j)) ∧ Hid (s = z ↔ y = y') ∧ Hid (Below w.heap.size w wr)) (fun i _ => s.len - (intOf i).toNat)
    case atStart => exact ⟨0, s, z, rfl, by omega, by omega, Nat.le_refl _, Lib.hid fun b o _ h => h, Lib.hid fun b o _ h => h, Lib.hid Iff.rfl, Lib.hid (Below.refl _ _)⟩
    case round =>
      obtain ⟨j, y, y', rfl, hj1, hj2, hys, hya, hyb, ES, hB⟩ := hrel
      cases y with
      | nil =>
        cases y' with
        | sub _ _ => simp only [Ls.len] at hj1 hj2; have := HL.out; omega
        | nil =>
          simp only [Ls.len] at hj1 hj2
          have hge2 : ¬ j < s.len := by omega
          go_wp2_with fail
          go_ret
          exact ⟨ret_bool (Ls.same_true (by simpa using ES.out)), hB.out⟩
      | sub l2 y =>
        cases y' with
        | nil => simp only [Ls.len] at hj1 hj2; have := HL.out; omega
        | sub m2 y' =>
          simp only [Ls.len] at hj1 hj2
          simp only [Ls.size] at hys
          have hlt3 : j < s.len := by omega
          have hlt4 : j < z.len := by omega
          rcases S1.out.2 with h30 | ⟨b3, o3, rfl, hb3, ha3⟩
          · omega
          rcases S2.out.2 with h30 | ⟨b4, o4, rfl, hb4, ha4⟩
          · omega
          obtain ⟨⟨p5, c5, g5, s5⟩, hy5⟩ := hya.out b3 o3 rfl ha3
          obtain ⟨⟨p6, c6, g6, s6⟩, hy6⟩ := hyb.out b4 o4 rfl ha4
          have f5 := (hB.out.cell (show b3 < w.heap.size by omega)).trans g5
          have f6 := (hB.out.cell (show b4 < w.heap.size by omega)).trans g6
          have HR := Lib.hid (IH.out l2 m2 (by omega) p5 p6 c5 c6 N _ (s5.imp (Nat.le_refl _) fun b' o' hb' ha' => Lf.At.later (hB.out.mono hN) (Nat.le_refl _) _ _ _ hb' ha') (s6.imp (Nat.le_refl _) fun b' o' hb' ha' => Lf.At.later (hB.out.mono hN) (Nat.le_refl _) _ _ _ hb' ha') (Nat.le_trans hN hB.out.size))
          have HZ := Lib.hid (And.intro hy5 hy6)
          clear g5 g6 s5 s6 hy5 hy6 ha3 ha4
          by_cases hlm : l2 = m2
          · have HR1 := Lib.hid (HR.out.mono fun e w' h => show e = Ending.returned (.bool true) ∧ _ from ⟨h.1.trans (ret_bool (Lf.same_true hlm).symm), h.2⟩)
            have HLM := Lib.hid hlm
            clear HR hlm
            go_wp2_with (go_at_call 17; refine HR1.out.mono ?_; rintro e w' ⟨rfl, hB1⟩)
            go_roundw
            case rel => exact ⟨j + 1, y, y', by go_num, by omega, by omega, by omega, Lib.hid fun b o hbo _ => by cases hbo; exact HZ.out.1, Lib.hid fun b o hbo _ => by cases hbo; exact HZ.out.2,
              Lib.hid (ES.out.trans (Ls.sub_eq.trans ⟨fun h => h.2, fun h => ⟨HLM.out, h⟩⟩)), Lib.hid (hB.out.trans (hB1.mono hB.out.size))⟩
            case measure => simp [intOf]; omega
          · have HR1 := Lib.hid (HR.out.mono fun e w' h => show e = Ending.returned (.bool false) ∧ _ from ⟨h.1.trans (ret_bool (Lf.same_false hlm).symm), h.2⟩)
            have HLM := Lib.hid hlm
            clear HR hlm
            go_wp2_with (go_at_call 17; refine HR1.out.mono ?_; rintro e w' ⟨rfl, hB1⟩)
            go_ret
            exact ⟨ret_bool (Ls.same_false fun e => HLM.out (Ls.sub_eq.1 (ES.out.1 e)).1), hB.out.trans (hB1.mono hB.out.size)⟩
  · have HB := Lib.hid (Ls.same_false fun e : s = z => hl (by rw [e]))
    have hl' : ((s.len : Int) != (z.len : Int)) = true := by simp; omega
    clear hl
    go_enter Try.func44, Try.ntmps44
    go_wp2_with fail
    go_ret
    exact ⟨ret_bool HB.out, Below.refl _ _⟩

noncomputable def nodeSame (k k' : Int) (is is' : List Int) (t t' : Bool) (s s' : Ls) : Bool := decide (k = k') && decide (t = t') && decide (is = is') && s.same s'
set_option maxHeartbeats 3200000 in
theorem eqNode_any (n : Nat) (ih : PSame n) (k k' : Int) (is is' : List Int) (t t' : Bool) (s s' : Ls) (hs : s.size ≤ n) (q1 q2 q3 q4 : Option Addr) (d1 d2 d3 d4 N : Nat) (w : World)
    (h1 : Sl N q1 is.length (Ints w is)) (h2 : Sl N q2 is'.length (Ints w is')) (h3 : s.In w N q3) (h4 : s'.In w N q4) (hN : N ≤ w.heap.size) :
    Calls Try.prog 42 #[.agg #[.int .i64 k, .slice q1 is.length d1, .bool t, .slice q3 s.len d3], .agg #[.int .i64 k', .slice q2 is'.length d2, .bool t', .slice q4 s'.len d4]] w
      fun e w' => e = .returned (.bool (nodeSame k k' is is' t t' s s')) ∧ Below w.heap.size w w' := by
  have HE := Lib.hid (fun (w1 : World) (hb : Below w.heap.size w w1) => eqU_any is is' q1 q2 d1 d2 N w1 (h1.imp (Nat.le_refl _) fun b o hb' ha => Ints.later (hb.mono hN) is b o hb' ha) (h2.imp (Nat.le_refl _) fun b o hb' ha => Ints.later (hb.mono hN) is' b o hb' ha) (Nat.le_trans hN hb.size))
  have HS := Lib.hid (fun (w1 : World) (hb : Below w.heap.size w w1) => eqLs_any n ih s s' hs q3 q4 d3 d4 N w1 (h3.later (hb.mono hN) (Nat.le_refl _)) (h4.later (hb.mono hN) (Nat.le_refl _)) (Nat.le_trans hN hb.size))
  have HB := Lib.hid (((Below.refl _ w).alloc (Nat.le_refl _) (Obj.cells #[.int .i64 k, .slice q1 is.length d1, .bool t, .slice q3 s.len d3] 44)).alloc (by simp) (Obj.cells #[.int .i64 k', .slice q2 is'.length d2, .bool t', .slice q4 s'.len d4] 44))
  have HC := Lib.hid (show ∀ w1, Below ((w.alloc (Obj.cells #[.int .i64 k, .slice q1 is.length d1, .bool t, .slice q3 s.len d3] 44)).alloc (Obj.cells #[.int .i64 k', .slice q2 is'.length d2, .bool t', .slice q4 s'.len d4] 44)).heap.size ((w.alloc (Obj.cells #[.int .i64 k, .slice q1 is.length d1, .bool t, .slice q3 s.len d3] 44)).alloc (Obj.cells #[.int .i64 k', .slice q2 is'.length d2, .bool t', .slice q4 s'.len d4] 44)) w1 →
      w1.cell? ⟨w.heap.size, 3, none⟩ = some (.slice q3 s.len d3) ∧ w1.cell? ⟨w.heap.size + 1, 3, none⟩ = some (.slice q4 s'.len d4) from fun w1 hb => ⟨(hb.cell (by simp; omega)).trans (by simp [go_sem]), (hb.cell (by simp)).trans (by simp [go_sem])⟩)
  clear h1 h2 h3 h4 ih
  by_cases hk : k = k'
  · subst hk
    by_cases ht : t = t'
    · subst ht
      by_cases hi : is = is'
      · have HI := Lib.hid (decide_eq_true hi)
        have HV := Lib.hid (show s.same s' = nodeSame k k is is' t t s s' by simp [nodeSame, HI.out])
        clear hi
        rw [HI.out] at HE
        generalize hv : s.same s' = v at HS HV
        go_enter Try.func42, Try.ntmps42
        go_wp2_with (first | (go_at_call 43; refine (HE.out _ HB.out).mono ?_; rintro e w1 ⟨rfl, hB1⟩; obtain ⟨c3, c4⟩ := HC.out _ hB1; have HB2 := Lib.hid (HB.out.trans (hB1.mono (by simp; omega))); clear hB1))
        refine (HS.out w1 HB2.out).mono ?_
        rintro e w2 ⟨rfl, hB2⟩
        have HB3 := Lib.hid (HB2.out.trans (hB2.mono HB2.out.size))
        clear hB2
        go_wp2_with fail
        go_ret
        exact ⟨ret_bool HV.out, HB3.out⟩
      · have HI := Lib.hid (decide_eq_false hi)
        clear hi
        rw [HI.out] at HE
        go_enter Try.func42, Try.ntmps42
        go_wp2_with (first | (go_at_call 43; refine (HE.out _ HB.out).mono ?_; rintro e w' ⟨rfl, hB1⟩))
        go_ret
        exact ⟨ret_bool (by simp [nodeSame, HI.out]), HB.out.trans (hB1.mono (by simp; omega))⟩
    · go_enter Try.func42, Try.ntmps42
      have HI := Lib.hid (decide_eq_false ht)
      go_wp2_with fail
      go_ret
      exact ⟨ret_bool (by simp [nodeSame, HI.out]), HB.out⟩
  · go_enter Try.func42, Try.ntmps42
    have HI := Lib.hid (decide_eq_false hk)
    go_wp2_with fail
    go_ret
    exact ⟨ret_bool (by simp [nodeSame, HI.out]), HB.out⟩

theorem node_same {l m r z : Lf} {kd kd' : Int} {is is' : List Int} {t t' : Bool} {s s' : Ls} (E : l = m ↔ Lf.node kd is t s r = Lf.node kd' is' t' s' z) :
    (nodeSame kd kd' is is' t t' s s' = true → (l = m ↔ r = z)) ∧ (nodeSame kd kd' is is' t t' s s' = false → ¬ l = m) := by
  constructor
  · intro h
    simp only [nodeSame, Bool.and_eq_true, decide_eq_true_eq] at h
    obtain ⟨⟨⟨h1, h2⟩, h3⟩, h4⟩ := h
    have h5 : s = s' := by unfold Ls.same at h4; exact @of_decide_eq_true _ (Classical.propDecidable _) h4
    exact E.trans (Lf.node_eq.trans ⟨fun h => h.2.2.2.2, fun h => ⟨h1, h2, h3, h5, h⟩⟩)
  · intro h e
    obtain ⟨h1, h2, h3, h4, _⟩ := Lf.node_eq.1 (E.1 e)
    subst h1; subst h2; subst h3; subst h4
    simp only [nodeSame, decide_true, Bool.true_and] at h
    rw [← Ls.same_true rfl] at h
    exact absurd h (by decide)

set_option maxRecDepth 100000 in
set_option maxHeartbeats 3200000 in
theorem psame_step (n : Nat) (ih : PSame n) (l m : Lf) (hsz : l.size < n + 1) (p q : Option Addr) (cp cq N : Nat) (w : World) (h1 : l.In w N p) (h2 : m.In w N q) (hN : N ≤ w.heap.size) :
    Calls Try.prog 41 #[.slice p l.len cp, .slice q m.len cq, .func (Fn.func 42) #[] #[]] w fun e w' => e = .returned (.bool (l.same m)) ∧ Below w.heap.size w w' := by
  have IH := Lib.hid ih
  have S1 := Lib.hid h1
  have S2 := Lib.hid h2
  have hm1 := h1.1
  have hm2 := h2.1
  clear h1 h2 ih
  by_cases hl : l.len = m.len
  · have HL := Lib.hid hl
    have hl' : ((l.len : Int) != (m.len : Int)) = false := by simp [hl]
    clear hl
    go_enter Try.func41, Try.ntmps41
    go_wp2_with fail
    go_loopw [17] (fun i wr => ∃ (k : Nat) (r z : Lf), i = .int .i64 k ∧ k + r.len = l.len ∧ k + z.len = m.len ∧ r.size ≤ n ∧ Hid (∀ b o, p = some ⟨b, o, none⟩ → l.At w N b o → r.At w N b (o + k * 4)) ∧ Hid (∀ b o, q = some ⟨b, o, none⟩ → m.At w N b o → z.At w N b (o + k * 4)) ∧ Hid (l = m ↔ r = z) ∧ Hid (Below w.heap.size w wr))
      (fun i _ => l.len - (intOf i).toNat)
    case atStart => exact ⟨0, l, m, rfl, by omega, by omega, by omega, Lib.hid fun b o _ h => by rw [Nat.zero_mul]; exact h, Lib.hid fun b o _ h => by rw [Nat.zero_mul]; exact h, Lib.hid Iff.rfl, Lib.hid (Below.refl _ _)⟩
    case round =>
      obtain ⟨k, r, z, rfl, hk, hkz, hrs, hat, haz, EQ, hB⟩ := hrel
      cases r with
      | nil =>
        cases z with
        | node _ _ _ _ _ => simp only [Lf.len] at hk hkz; have := HL.out; omega
        | nil =>
          simp only [Lf.len] at hk hkz
          have hge : ¬ k < l.len := by omega
          go_wp2_with fail
          go_ret
          exact ⟨ret_bool (Lf.same_true (by simpa using EQ.out)), hB.out⟩
      | node kd is t s r =>
        cases z with
        | nil => simp only [Lf.len] at hk hkz; have := HL.out; omega
        | node kd' is' t' s' z =>
          simp only [Lf.len] at hk hkz
          simp only [Lf.size] at hrs
          have hlt : k < l.len := by omega
          have hlt2 : k < m.len := by omega
          rcases S1.out.2 with h30 | ⟨b, o, rfl, hb, ha⟩
          · omega
          rcases S2.out.2 with h30 | ⟨b', o', rfl, hb', ha'⟩
          · omega
          obtain ⟨g0', ⟨q1, d1, g1', s1⟩, g2', ⟨q3, d3, g3', s3⟩, hr⟩ := hat.out b o rfl ha
          obtain ⟨k0', ⟨q2, d2, k1', s2⟩, k2', ⟨q4, d4, k3', s4⟩, hz⟩ := haz.out b' o' rfl ha'
          have g0 := (hB.out.cell (show b < w.heap.size by omega)).trans g0'
          have g1 := (hB.out.cell (show b < w.heap.size by omega)).trans g1'
          have g2 := (hB.out.cell (show b < w.heap.size by omega)).trans g2'
          have g3 := (hB.out.cell (show b < w.heap.size by omega)).trans g3'
          have k0 := fun (o : Obj) => (World.cell?_alloc_past o _ _ (World.block_lt_of_cell? _ _ ((hB.out.cell (show b' < w.heap.size by omega)).trans k0'))).trans ((hB.out.cell (show b' < w.heap.size by omega)).trans k0')
          have k1 := fun (o : Obj) => (World.cell?_alloc_past o _ _ (World.block_lt_of_cell? _ _ ((hB.out.cell (show b' < w.heap.size by omega)).trans k1'))).trans ((hB.out.cell (show b' < w.heap.size by omega)).trans k1')
          have k2 := fun (o : Obj) => (World.cell?_alloc_past o _ _ (World.block_lt_of_cell? _ _ ((hB.out.cell (show b' < w.heap.size by omega)).trans k2'))).trans ((hB.out.cell (show b' < w.heap.size by omega)).trans k2')
          have k3 := fun (o : Obj) => (World.cell?_alloc_past o _ _ (World.block_lt_of_cell? _ _ ((hB.out.cell (show b' < w.heap.size by omega)).trans k3'))).trans ((hB.out.cell (show b' < w.heap.size by omega)).trans k3')
          have HQ := Lib.hid (And.intro hr hz)
          have HB2 := Lib.hid (hB.out.trans ((((Below.refl _ _).alloc (Nat.le_refl _) (Obj.cells #[.int .i64 kd, .slice q1 is.length d1, .bool t, .slice q3 s.len d3] 44)).alloc (by simp) (Obj.cells #[.int .i64 kd', .slice q2 is'.length d2, .bool t', .slice q4 s'.len d4] 44)).mono hB.out.size))
          have HN := Lib.hid (fun (w1 : World) (hb : Below w.heap.size w w1) => eqNode_any n IH.out kd kd' is is' t t' s s' (by omega) q1 q2 q3 q4 d1 d2 d3 d4 N w1 (s1.imp (Nat.le_refl _) fun b o hb' ha => Ints.later (hb.mono hN) is b o hb' ha) (s2.imp (Nat.le_refl _) fun b o hb' ha => Ints.later (hb.mono hN) is' b o hb' ha) (Ls.In.later s3 (hb.mono hN) (Nat.le_refl _)) (Ls.In.later s4 (hb.mono hN) (Nat.le_refl _)) (Nat.le_trans hN hb.size))
          have HE := Lib.hid (node_same EQ.out)
          clear g0' g1' g2' g3' k0' k1' k2' k3' s1 s2 s3 s4 hr hz ha ha'
          generalize nodeSame kd kd' is is' t t' s s' = v at HN HE
          cases v with
          | true =>
            have HT := Lib.hid (HE.out.1 rfl)
            clear HE
            go_wp2_with fail
            refine (HN.out _ HB2.out).mono ?_
            rintro e w1 ⟨rfl, hB1⟩
            have HB3 := Lib.hid (HB2.out.trans (hB1.mono HB2.out.size))
            clear hB1 k0 k1 k2 k3
            go_wp2_with fail
            go_roundw
            case rel => exact ⟨k + 1, r, z, by go_num, by omega, by omega, by omega, Lib.hid fun b o hbo _ => by cases hbo; exact At_stepL HQ.out.1, Lib.hid fun b o hbo _ => by cases hbo; exact At_stepL HQ.out.2, HT, HB3⟩
            case measure => simp [intOf]; omega
          | false =>
            have HT := Lib.hid (HE.out.2 rfl)
            clear HE
            go_wp2_with fail
            refine (HN.out _ HB2.out).mono ?_
            rintro e w1 ⟨rfl, hB1⟩
            have HB3 := Lib.hid (HB2.out.trans (hB1.mono HB2.out.size))
            clear hB1 k0 k1 k2 k3
            go_wp2_with fail
            go_ret
            exact ⟨ret_bool (Lf.same_false HT.out), HB3.out⟩
  · have HB := Lib.hid (Lf.same_false fun e : l = m => hl (by rw [e]))
    have hl' : ((l.len : Int) != (m.len : Int)) = true := by simp; omega
    clear hl
    go_enter Try.func41, Try.ntmps41
    go_wp2_with fail
    go_ret
    exact ⟨ret_bool HB.out, Below.refl _ _⟩
theorem psame_to : ∀ n, PSame n
  | 0 => fun _ _ h => absurd h (Nat.not_lt_zero _)
  | n + 1 => by
    intro l m hsz p q cp cq N w h1 h2 hN
    have HP := Lib.hid (psame_step n (psame_to n) l m hsz p q cp cq N w h1 h2 hN)
    clear h1 h2
    go_enter Try.func17, Try.ntmps17
    go_wp2_with fail
    refine HP.out.mono ?_
    rintro e w1 ⟨rfl, hB1⟩
    go_wp2_with fail
    go_ret
    exact ⟨rfl, hB1⟩
theorem leakSame_any (l m : Lf) (p q : Option Addr) (cp cq N : Nat) (w : World) (h1 : l.In w N p) (h2 : m.In w N q) (hN : N ≤ w.heap.size) :
    Calls Try.prog 17 #[.slice p l.len cp, .slice q m.len cq] w fun e w' => e = .returned (.bool (l.same m)) ∧ Below w.heap.size w w' :=
  psame_to _ l m (Nat.lt_succ_self _) p q cp cq N w h1 h2 hN
end Go.Proofs.Ytdigkdfkaikagaa
