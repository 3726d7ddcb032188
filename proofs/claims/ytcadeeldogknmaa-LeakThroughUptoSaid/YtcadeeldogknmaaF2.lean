/- Two leakages are the same: the document's. -/
import Derived.Test.YtcadeeldogknmaaF1
import Derived.StillTailTactics
namespace Go.Proofs.Ytcadeeldogknmaa
open Go.RowKit
structure PairG (gx gy : Nat) (q1 : Option Addr) (n1 d1 : Nat) (q3 : Option Addr) (n3 d3 : Nat) (q2 : Option Addr) (n2 d2 : Nat) (q4 : Option Addr) (n4 d4 : Nat) (B : Nat) (w wr : World) : Prop where
  bel : Below B w wr
  x1 : wr.cell? ⟨gx, 1, none⟩ = some (.slice q1 n1 d1)
  x3 : wr.cell? ⟨gx, 3, none⟩ = some (.slice q3 n3 d3)
  z1 : wr.cell? ⟨gy, 1, none⟩ = some (.slice q2 n2 d2)
  z3 : wr.cell? ⟨gy, 3, none⟩ = some (.slice q4 n4 d4)
theorem PairG.on {gx gy n1 d1 n3 d3 n2 d2 n4 d4 : Nat} {q1 q3 q2 q4 : Option Addr} {B : Nat} {w wr w' : World} (h : PairG gx gy q1 n1 d1 q3 n3 d3 q2 n2 d2 q4 n4 d4 B w wr) (hB : Below wr.heap.size wr w') (hs : B ≤ wr.heap.size) :
    PairG gx gy q1 n1 d1 q3 n3 d3 q2 n2 d2 q4 n4 d4 B w w' :=
  ⟨h.bel.trans (hB.mono hs), (hB.cell (World.block_lt_of_cell? _ _ h.x1)).trans h.x1, (hB.cell (World.block_lt_of_cell? _ _ h.x3)).trans h.x3, (hB.cell (World.block_lt_of_cell? _ _ h.z1)).trans h.z1, (hB.cell (World.block_lt_of_cell? _ _ h.z3)).trans h.z3⟩

theorem Lf.node_eq {k k' : Int} {is is' : List Int} {t t' : Bool} {s s' : Ls} {r r' : Lf} : Lf.node k is t s r = Lf.node k' is' t' s' r' ↔ k = k' ∧ t = t' ∧ is = is' ∧ s = s' ∧ r = r' := by
  constructor
  · intro h; injection h with h1 h2 h3 h4 h5; exact ⟨h1, h3, h2, h4, h5⟩
  · rintro ⟨rfl, rfl, rfl, rfl, rfl⟩; rfl
theorem Ls.sub_eq {l l' : Lf} {r r' : Ls} : Ls.sub l r = Ls.sub l' r' ↔ l = l' ∧ r = r' := by
  constructor
  · intro h; injection h with h1 h2; exact ⟨h1, h2⟩
  · rintro ⟨rfl, rfl⟩; rfl
noncomputable def Lf.same (l m : Lf) : Bool := @decide (l = m) (Classical.propDecidable _)
theorem Lf.same_true {l m : Lf} (h : l = m) : true = l.same m := by unfold Lf.same; exact (@decide_eq_true _ (Classical.propDecidable _) h).symm
theorem Lf.same_false {l m : Lf} (h : ¬ l = m) : false = l.same m := by unfold Lf.same; exact (@decide_eq_false _ (Classical.propDecidable _) h).symm
def SameTo (n : Nat) : Prop := ∀ (l m : Lf), l.size < n → ∀ (p q : Option Addr) (cp cq N : Nat) (w : World), l.In w N p → m.In w N q → N ≤ w.heap.size →
    Calls Try.prog 10 #[.slice p l.len cp, .slice q m.len cq] w fun e w' => e = .returned (.bool (l.same m)) ∧ Below w.heap.size w w'

set_option maxRecDepth 100000 in
set_option maxHeartbeats 6400000 in
theorem same_step (n : Nat) (ih : SameTo n) : SameTo (n + 1) := by
  intro l m hsz p q cp cq N w h1 h2 hN
  have IH := Lib.hid ih
  clear ih
  have S1 := Lib.hid h1
  have S2 := Lib.hid h2
  have hm1 := h1.1
  have hm2 := h2.1
  clear h1 h2
  by_cases hlen : l.len = m.len
  · rw [hlen]
    go_enter Try.func10, Try.ntmps10
    go_wp2_with fail
    go_loopw [5] (fun i wr => ∃ (k : Nat) (r z : Lf), i = .int .i64 k ∧ k + r.len = l.len ∧ k + z.len = m.len ∧ r.size ≤ n ∧ Hid (∀ b o, p = some ⟨b, o, none⟩ → l.At w N b o → r.At w N b (o + k * 4)) ∧ Hid (∀ b o, q = some ⟨b, o, none⟩ → m.At w N b o → z.At w N b (o + k * 4)) ∧ Hid (l = m ↔ r = z) ∧ Hid (Below w.heap.size w wr))
      (fun i _ => l.len - (intOf i).toNat)
    case atStart => exact ⟨0, l, m, rfl, by omega, by omega, by omega, Lib.hid fun b o _ h => by rw [Nat.zero_mul]; exact h, Lib.hid fun b o _ h => by rw [Nat.zero_mul]; exact h, Lib.hid Iff.rfl, Lib.hid (Below.refl _ _)⟩
    case round =>
      obtain ⟨k, r, z, rfl, hk, hkz, hrs, hat, haz, EQ, hB⟩ := hrel
      cases r with
      | nil =>
        cases z with
        | node _ _ _ _ _ => simp only [Lf.len] at hk hkz; omega
        | nil =>
          simp only [Lf.len] at hk hkz
          have hge : ¬ k < l.len := by omega
          go_wp2_with fail
          go_ret
          exact ⟨ret_bool (Lf.same_true (by simpa using EQ.out)), hB.out⟩
      | node kd is t s r =>
        cases z with
        | nil => simp only [Lf.len] at hk hkz; omega
        | node kd' is' t' s' z =>
          simp only [Lf.len] at hk hkz
          simp only [Lf.size] at hrs
          have hlt : k < l.len := by omega
          have hlt2 : k < m.len := by omega
          rcases S1.out.2 with h30 | ⟨b, o, rfl, hb, ha⟩
          · omega
          rcases S2.out.2 with h30 | ⟨b', o', rfl, hb', ha'⟩
          · omega
          obtain ⟨g0', ⟨q1, d1, g1', s1⟩, g2', ⟨q3, d3, g3', s3⟩, hr⟩ := hat.out b o rfl ha
          obtain ⟨k0', ⟨q2, d2, k1', s2⟩, k2', ⟨q4, d4, k3', s4⟩, hz⟩ := haz.out b' o' rfl ha'
          have g0 := (hB.out.cell (show b < w.heap.size by omega)).trans g0'
          have g1 := (hB.out.cell (show b < w.heap.size by omega)).trans g1'
          have g2 := (hB.out.cell (show b < w.heap.size by omega)).trans g2'
          have g3 := (hB.out.cell (show b < w.heap.size by omega)).trans g3'
          have k0 := (hB.out.cell (show b' < w.heap.size by omega)).trans k0'
          have k1 := (hB.out.cell (show b' < w.heap.size by omega)).trans k1'
          have k2 := (hB.out.cell (show b' < w.heap.size by omega)).trans k2'
          have k3 := (hB.out.cell (show b' < w.heap.size by omega)).trans k3'
          have HQ := Lib.hid (And.intro hr hz)
          have T1 := Lib.hid (And.intro s1 s2)
          have T3 := Lib.hid (And.intro s3 s4)
          have hm11 := s1.1
          have hm12 := s2.1
          have hm13 := s3.1
          have hm14 := s4.1
          clear g0' g1' g2' g3' k0' k1' k2' k3' s1 s2 s3 s4 hr hz ha ha'
          have HP := Lib.hid (show ∀ (k1 k2 : Int) (t1 t2 : Bool), PairG wr.heap.size (wr.heap.size + 1) q1 is.length d1 q3 s.len d3 q2 is'.length d2 q4 s'.len d4 w.heap.size w (((wr.alloc (Obj.cells #[.int .i64 k1, .slice q1 is.length d1, .bool t1, .slice q3 s.len d3] 47)).alloc (Obj.cells #[.int .i64 k2, .slice q2 is'.length d2, .bool t2, .slice q4 s'.len d4] 47)).drew) from by
            intro k1 k2 t1 t2
            have hb := (((Below.refl _ wr).alloc (Nat.le_refl _) (Obj.cells #[.int .i64 k1, .slice q1 is.length d1, .bool t1, .slice q3 s.len d3] 47)).alloc (by simp) (Obj.cells #[.int .i64 k2, .slice q2 is'.length d2, .bool t2, .slice q4 s'.len d4] 47)).drew
            exact ⟨hB.out.trans (hb.mono hB.out.size), by simp [go_sem], by simp [go_sem], by simp [go_sem], by simp [go_sem]⟩)
          have HP2 := Lib.hid (show ∀ (k1 k2 : Int) (t1 t2 : Bool), PairG (wr.heap.size + 1) wr.heap.size q1 is.length d1 q3 s.len d3 q2 is'.length d2 q4 s'.len d4 w.heap.size w (((wr.alloc (Obj.cells #[.int .i64 k2, .slice q2 is'.length d2, .bool t2, .slice q4 s'.len d4] 47)).alloc (Obj.cells #[.int .i64 k1, .slice q1 is.length d1, .bool t1, .slice q3 s.len d3] 47)).drew) from by
            intro k1 k2 t1 t2
            have hb := (((Below.refl _ wr).alloc (Nat.le_refl _) (Obj.cells #[.int .i64 k2, .slice q2 is'.length d2, .bool t2, .slice q4 s'.len d4] 47)).alloc (by simp) (Obj.cells #[.int .i64 k1, .slice q1 is.length d1, .bool t1, .slice q3 s.len d3] 47)).drew
            exact ⟨hB.out.trans (hb.mono hB.out.size), by simp [go_sem], by simp [go_sem], by simp [go_sem], by simp [go_sem]⟩)
          have g0a := fun (o : Obj) => (World.cell?_alloc_past o _ _ (World.block_lt_of_cell? _ _ g0)).trans g0
          have g0b := fun (o o' : Obj) => (World.cell?_alloc_past o' _ _ (World.block_lt_of_cell? _ _ (g0a o))).trans (g0a o)
          have g1a := fun (o : Obj) => (World.cell?_alloc_past o _ _ (World.block_lt_of_cell? _ _ g1)).trans g1
          have g1b := fun (o o' : Obj) => (World.cell?_alloc_past o' _ _ (World.block_lt_of_cell? _ _ (g1a o))).trans (g1a o)
          have g2a := fun (o : Obj) => (World.cell?_alloc_past o _ _ (World.block_lt_of_cell? _ _ g2)).trans g2
          have g2b := fun (o o' : Obj) => (World.cell?_alloc_past o' _ _ (World.block_lt_of_cell? _ _ (g2a o))).trans (g2a o)
          have g3a := fun (o : Obj) => (World.cell?_alloc_past o _ _ (World.block_lt_of_cell? _ _ g3)).trans g3
          have g3b := fun (o o' : Obj) => (World.cell?_alloc_past o' _ _ (World.block_lt_of_cell? _ _ (g3a o))).trans (g3a o)
          have k0a := fun (o : Obj) => (World.cell?_alloc_past o _ _ (World.block_lt_of_cell? _ _ k0)).trans k0
          have k0b := fun (o o' : Obj) => (World.cell?_alloc_past o' _ _ (World.block_lt_of_cell? _ _ (k0a o))).trans (k0a o)
          have k1a := fun (o : Obj) => (World.cell?_alloc_past o _ _ (World.block_lt_of_cell? _ _ k1)).trans k1
          have k1b := fun (o o' : Obj) => (World.cell?_alloc_past o' _ _ (World.block_lt_of_cell? _ _ (k1a o))).trans (k1a o)
          have k2a := fun (o : Obj) => (World.cell?_alloc_past o _ _ (World.block_lt_of_cell? _ _ k2)).trans k2
          have k2b := fun (o o' : Obj) => (World.cell?_alloc_past o' _ _ (World.block_lt_of_cell? _ _ (k2a o))).trans (k2a o)
          have k3a := fun (o : Obj) => (World.cell?_alloc_past o _ _ (World.block_lt_of_cell? _ _ k3)).trans k3
          have k3b := fun (o o' : Obj) => (World.cell?_alloc_past o' _ _ (World.block_lt_of_cell? _ _ (k3a o))).trans (k3a o)
          go_wp2_with fail
          go_region
          · clear g0a g0b g1a g1b g2a g2b g3a g3b k0a k0b k1a k1b k2a k2b k3a k3b HP2
            go_wp2_with fail
            · have h : ((s.len : Int) != (s'.len : Int)) = true := by assumption
              go_ret
              exact ⟨ret_bool (Lf.same_false fun e => by obtain ⟨_, _, _, e4, _⟩ := Lf.node_eq.1 (EQ.out.1 e); rw [e4] at h; simp at h), (HP.out _ _ _ _).bel⟩
            · have hkd : kd = kd' := by assumption
              have htt : t = t' := by assumption
              have hli : is.length = is'.length := by omega
              have hls : s.len = s'.len := by
                have h : ((s.len : Int) != (s'.len : Int)) = false := by assumption
                simp at h
                omega
              have HPX := HP.out
              clear HP
              clear g0 g1 g2 g3 k0 k1 k2 k3
              go_loopw [8] (fun i wr' => ∃ (ds rs rs' : List Int), i = .int .i64 ds.length ∧ Hid (is = ds ++ rs) ∧ Hid (is' = ds ++ rs') ∧ ds.length + rs.length = is.length ∧ rs'.length = rs.length ∧ Hid (PairG wr.heap.size (wr.heap.size + 1) q1 is.length d1 q3 s.len d3 q2 is'.length d2 q4 s'.len d4 w.heap.size w wr')) (fun i _ => is.length - (intOf i).toNat)
              case atStart => exact ⟨[], is, is', rfl, Lib.hid rfl, Lib.hid rfl, by simp, by omega, Lib.hid (HPX _ _ _ _)⟩
              case round =>
                clear HPX
                obtain ⟨ds, rs, rs', rfl, E1, E2, hd1, hd2, hP⟩ := hrel
                obtain ⟨bel, x1, x3, z1, z3⟩ := hP.out
                have HBL := Lib.hid bel
                clear bel
                cases rs with
                | nil =>
                  cases rs' with
                  | cons _ _ => simp at hd2
                  | nil =>
                    simp only [List.length_nil] at hd1
                    have hge : ¬ ds.length < is.length := by omega
                    have EIS := Lib.hid (show is = is' by rw [E1.out, E2.out])
                    go_wp2_with fail
                    clear x1 x3 z1 z3 HBL E1 E2
                    go_loopw [9] (fun i wr'' => ∃ (j : Nat) (y y' : Ls), i = .int .i64 j ∧ j + y.len = s.len ∧ j + y'.len = s'.len ∧ y.size ≤ s.size ∧ Hid (∀ b o, q3 = some ⟨b, o, none⟩ → s.At w N b o → y.At w N b (o + j)) ∧ Hid (∀ b o, q4 = some ⟨b, o, none⟩ → s'.At w N b o → y'.At w N b (o + j)) ∧ Hid (s = s' ↔ y = y') ∧ Hid (PairG _ _ q1 is.length d1 q3 s.len d3 q2 is'.length d2 q4 s'.len d4 w.heap.size w wr'')) (fun i _ => s.len - (intOf i).toNat)
                    case atStart => exact ⟨0, s, s', rfl, by omega, by omega, Nat.le_refl _, Lib.hid fun b o _ h => h, Lib.hid fun b o _ h => h, Lib.hid Iff.rfl, hP⟩
                    case round =>
                      clear hP
                      obtain ⟨j, y, y', rfl, hj1, hj2, hys, hya, hyb, ES, hP⟩ := hrel
                      obtain ⟨bel, x1, x3, z1, z3⟩ := hP.out
                      have HBL := Lib.hid bel
                      clear bel
                      cases y with
                      | nil =>
                        cases y' with
                        | sub _ _ => simp only [Ls.len] at hj1 hj2; omega
                        | nil =>
                          simp only [Ls.len] at hj1 hj2
                          have hge2 : ¬ j < s.len := by omega
                          go_wp2_with fail
                          go_roundw
                          case rel => exact ⟨k + 1, r, z, by go_num, by omega, by omega, by omega, Lib.hid fun b o hbo _ => by cases hbo; exact At_stepL HQ.out.1, Lib.hid fun b o hbo _ => by cases hbo; exact At_stepL HQ.out.2,
                            Lib.hid (EQ.out.trans (Lf.node_eq.trans ⟨fun h => h.2.2.2.2, fun h => ⟨hkd, htt, EIS.out, ES.out.2 rfl, h⟩⟩)), Lib.hid HBL.out⟩
                          case measure => simp [intOf]; omega
                      | sub l2 y =>
                        cases y' with
                        | nil => simp only [Ls.len] at hj1 hj2; omega
                        | sub m2 y' =>
                          simp only [Ls.len] at hj1 hj2
                          simp only [Ls.size] at hys
                          have hlt3 : j < s.len := by omega
                          have hlt4 : j < s'.len := by omega
                          rcases T3.out.1.2 with h30 | ⟨b3, o3, rfl, hb3, ha3⟩
                          · omega
                          rcases T3.out.2.2 with h30 | ⟨b4, o4, rfl, hb4, ha4⟩
                          · omega
                          obtain ⟨⟨p5, c5, g5, s5⟩, hy5⟩ := hya.out b3 o3 rfl ha3
                          obtain ⟨⟨p6, c6, g6, s6⟩, hy6⟩ := hyb.out b4 o4 rfl ha4
                          have f5 := (HBL.out.cell (show b3 < w.heap.size by omega)).trans g5
                          have f6 := (HBL.out.cell (show b4 < w.heap.size by omega)).trans g6
                          have HR := Lib.hid (fun (w1 : World) (hb : Below w.heap.size w w1) => IH.out l2 m2 (by omega) p5 p6 c5 c6 N w1 (s5.imp (Nat.le_refl _) fun b' o' hb' ha' => Lf.At.later (hb.mono hN) (Nat.le_refl _) _ _ _ hb' ha') (s6.imp (Nat.le_refl _) fun b' o' hb' ha' => Lf.At.later (hb.mono hN) (Nat.le_refl _) _ _ _ hb' ha') (Nat.le_trans hN hb.size))
                          have HZ := Lib.hid (And.intro hy5 hy6)
                          clear g5 g6 s5 s6 hy5 hy6 ha3 ha4
                          by_cases hlm : l2 = m2
                          · have HR1 := Lib.hid ((HR.out _ HBL.out.drew).mono fun e w' h => show e = Ending.returned (.bool true) ∧ _ from ⟨h.1.trans (ret_bool (Lf.same_true hlm).symm), h.2⟩)
                            have HLM := Lib.hid hlm
                            clear HR hlm
                            go_wp2_with fail
                            go_still_tail 10, (by kernel_rfl)
                            change wpList _ _ _ _ _ (World.drew _)
                            go_wp2_with (go_at_call 10; refine HR1.out.mono ?_; rintro e w' ⟨rfl, hB1⟩)
                            go_roundw
                            case rel => exact ⟨j + 1, y, y', by go_num, by omega, by omega, by omega, Lib.hid fun b o hbo _ => by cases hbo; exact HZ.out.1, Lib.hid fun b o hbo _ => by cases hbo; exact HZ.out.2,
                              Lib.hid (ES.out.trans (Ls.sub_eq.trans ⟨fun h => h.2, fun h => ⟨HLM.out, h⟩⟩)), Lib.hid (hP.out.on ((Below.refl _ _).drew.trans hB1) HBL.out.size)⟩
                            case measure => simp [intOf]; omega
                          · have HR1 := Lib.hid ((HR.out _ HBL.out.drew).mono fun e w' h => show e = Ending.returned (.bool false) ∧ _ from ⟨h.1.trans (ret_bool (Lf.same_false hlm).symm), h.2⟩)
                            have HLM := Lib.hid hlm
                            clear HR hlm
                            go_wp2_with fail
                            go_still_tail 10, (by kernel_rfl)
                            change wpList _ _ _ _ _ (World.drew _)
                            go_wp2_with (go_at_call 10; refine HR1.out.mono ?_; rintro e w' ⟨rfl, hB1⟩)
                            go_ret
                            exact ⟨ret_bool (Lf.same_false fun e => by
                              obtain ⟨_, _, _, e4, _⟩ := Lf.node_eq.1 (EQ.out.1 e)
                              exact HLM.out (Ls.sub_eq.1 (ES.out.1 e4)).1), HBL.out.trans (((Below.refl _ _).drew.trans hB1).mono HBL.out.size)⟩
                | cons y1 rs =>
                  cases rs' with
                  | nil => simp at hd2
                  | cons y2 rs' =>
                    simp only [List.length_cons] at hd1 hd2
                    have hlt1 : ds.length < is.length := by omega
                    have hlt2 : ds.length < is'.length := by omega
                    rcases T1.out.1.2 with h30 | ⟨b1, o1, rfl, hb1, ha1⟩
                    · omega
                    rcases T1.out.2.2 with h30 | ⟨b2, o2, rfl, hb2, ha2⟩
                    · omega
                    rw [E1.out] at ha1
                    rw [E2.out] at ha2
                    have u1 := (HBL.out.cell (show b1 < w.heap.size by omega)).trans (Ints.drop _ _ _ _ ha1).1
                    have u2 := (HBL.out.cell (show b2 < w.heap.size by omega)).trans (Ints.drop _ _ _ _ ha2).1
                    have HD := Lib.hid (hP.out.on (Below.refl _ _).drew HBL.out.size)
                    clear ha1 ha2 hP
                    go_wp2_with fail
                    go_region
                    all_goals go_wp2_with fail
                    · have h : (y1 != y2) = true := by assumption
                      go_ret
                      exact ⟨ret_bool (Lf.same_false fun e => by
                        obtain ⟨_, _, e3, _, _⟩ := Lf.node_eq.1 (EQ.out.1 e)
                        rw [E1.out, E2.out] at e3
                        have := (List.append_cancel_left e3)
                        injection this with e6 _
                        rw [e6] at h; simp at h), HBL.out.drew⟩
                    · have h : (y1 != y2) = false := by assumption
                      have hy : y1 = y2 := by simpa using h
                      go_roundw
                      case rel => exact ⟨ds ++ [y1], rs, rs', by rw [List.length_append]; go_num, Lib.hid (by rw [E1.out]; simp), Lib.hid (by rw [E2.out, hy]; simp), by simp; omega, by omega, HD⟩
                      case measure => simp [intOf]; omega
            · have h : ¬ ((is.length : Int) = (is'.length : Int)) := by assumption
              go_ret
              exact ⟨ret_bool (Lf.same_false fun e => by obtain ⟨_, _, e3, _, _⟩ := Lf.node_eq.1 (EQ.out.1 e); exact h (by rw [e3])), (HP.out _ _ _ _).bel⟩
            · have h : ¬ t = t' := by assumption
              go_ret
              exact ⟨ret_bool (Lf.same_false fun e => by obtain ⟨_, e2, _, _, _⟩ := Lf.node_eq.1 (EQ.out.1 e); exact h e2), (HP.out _ _ _ _).bel⟩
            · have h : ¬ kd = kd' := by assumption
              go_ret
              exact ⟨ret_bool (Lf.same_false fun e => by obtain ⟨e1, _, _, _, _⟩ := Lf.node_eq.1 (EQ.out.1 e); exact h e1), (HP.out _ _ _ _).bel⟩
          · clear g0a g0b g1a g1b g2a g2b g3a g3b k0a k0b k1a k1b k2a k2b k3a k3b HP
            go_wp2_with fail
            · have h : ((s.len : Int) != (s'.len : Int)) = true := by assumption
              go_ret
              exact ⟨ret_bool (Lf.same_false fun e => by obtain ⟨_, _, _, e4, _⟩ := Lf.node_eq.1 (EQ.out.1 e); rw [e4] at h; simp at h), (HP2.out _ _ _ _).bel⟩
            · have hkd : kd = kd' := by assumption
              have htt : t = t' := by assumption
              have hli : is.length = is'.length := by omega
              have hls : s.len = s'.len := by
                have h : ((s.len : Int) != (s'.len : Int)) = false := by assumption
                simp at h
                omega
              have HPX := HP2.out
              clear HP2
              clear g0 g1 g2 g3 k0 k1 k2 k3
              go_loopw [8] (fun i wr' => ∃ (ds rs rs' : List Int), i = .int .i64 ds.length ∧ Hid (is = ds ++ rs) ∧ Hid (is' = ds ++ rs') ∧ ds.length + rs.length = is.length ∧ rs'.length = rs.length ∧ Hid (PairG (wr.heap.size + 1) wr.heap.size q1 is.length d1 q3 s.len d3 q2 is'.length d2 q4 s'.len d4 w.heap.size w wr')) (fun i _ => is.length - (intOf i).toNat)
              case atStart => exact ⟨[], is, is', rfl, Lib.hid rfl, Lib.hid rfl, by simp, by omega, Lib.hid (HPX _ _ _ _)⟩
              case round =>
                clear HPX
                obtain ⟨ds, rs, rs', rfl, E1, E2, hd1, hd2, hP⟩ := hrel
                obtain ⟨bel, x1, x3, z1, z3⟩ := hP.out
                have HBL := Lib.hid bel
                clear bel
                cases rs with
                | nil =>
                  cases rs' with
                  | cons _ _ => simp at hd2
                  | nil =>
                    simp only [List.length_nil] at hd1
                    have hge : ¬ ds.length < is.length := by omega
                    have EIS := Lib.hid (show is = is' by rw [E1.out, E2.out])
                    go_wp2_with fail
                    clear x1 x3 z1 z3 HBL E1 E2
                    go_loopw [9] (fun i wr'' => ∃ (j : Nat) (y y' : Ls), i = .int .i64 j ∧ j + y.len = s.len ∧ j + y'.len = s'.len ∧ y.size ≤ s.size ∧ Hid (∀ b o, q3 = some ⟨b, o, none⟩ → s.At w N b o → y.At w N b (o + j)) ∧ Hid (∀ b o, q4 = some ⟨b, o, none⟩ → s'.At w N b o → y'.At w N b (o + j)) ∧ Hid (s = s' ↔ y = y') ∧ Hid (PairG _ _ q1 is.length d1 q3 s.len d3 q2 is'.length d2 q4 s'.len d4 w.heap.size w wr'')) (fun i _ => s.len - (intOf i).toNat)
                    case atStart => exact ⟨0, s, s', rfl, by omega, by omega, Nat.le_refl _, Lib.hid fun b o _ h => h, Lib.hid fun b o _ h => h, Lib.hid Iff.rfl, hP⟩
                    case round =>
                      clear hP
                      obtain ⟨j, y, y', rfl, hj1, hj2, hys, hya, hyb, ES, hP⟩ := hrel
                      obtain ⟨bel, x1, x3, z1, z3⟩ := hP.out
                      have HBL := Lib.hid bel
                      clear bel
                      cases y with
                      | nil =>
                        cases y' with
                        | sub _ _ => simp only [Ls.len] at hj1 hj2; omega
                        | nil =>
                          simp only [Ls.len] at hj1 hj2
                          have hge2 : ¬ j < s.len := by omega
                          go_wp2_with fail
                          go_roundw
                          case rel => exact ⟨k + 1, r, z, by go_num, by omega, by omega, by omega, Lib.hid fun b o hbo _ => by cases hbo; exact At_stepL HQ.out.1, Lib.hid fun b o hbo _ => by cases hbo; exact At_stepL HQ.out.2,
                            Lib.hid (EQ.out.trans (Lf.node_eq.trans ⟨fun h => h.2.2.2.2, fun h => ⟨hkd, htt, EIS.out, ES.out.2 rfl, h⟩⟩)), Lib.hid HBL.out⟩
                          case measure => simp [intOf]; omega
                      | sub l2 y =>
                        cases y' with
                        | nil => simp only [Ls.len] at hj1 hj2; omega
                        | sub m2 y' =>
                          simp only [Ls.len] at hj1 hj2
                          simp only [Ls.size] at hys
                          have hlt3 : j < s.len := by omega
                          have hlt4 : j < s'.len := by omega
                          rcases T3.out.1.2 with h30 | ⟨b3, o3, rfl, hb3, ha3⟩
                          · omega
                          rcases T3.out.2.2 with h30 | ⟨b4, o4, rfl, hb4, ha4⟩
                          · omega
                          obtain ⟨⟨p5, c5, g5, s5⟩, hy5⟩ := hya.out b3 o3 rfl ha3
                          obtain ⟨⟨p6, c6, g6, s6⟩, hy6⟩ := hyb.out b4 o4 rfl ha4
                          have f5 := (HBL.out.cell (show b3 < w.heap.size by omega)).trans g5
                          have f6 := (HBL.out.cell (show b4 < w.heap.size by omega)).trans g6
                          have HR := Lib.hid (fun (w1 : World) (hb : Below w.heap.size w w1) => IH.out l2 m2 (by omega) p5 p6 c5 c6 N w1 (s5.imp (Nat.le_refl _) fun b' o' hb' ha' => Lf.At.later (hb.mono hN) (Nat.le_refl _) _ _ _ hb' ha') (s6.imp (Nat.le_refl _) fun b' o' hb' ha' => Lf.At.later (hb.mono hN) (Nat.le_refl _) _ _ _ hb' ha') (Nat.le_trans hN hb.size))
                          have HZ := Lib.hid (And.intro hy5 hy6)
                          clear g5 g6 s5 s6 hy5 hy6 ha3 ha4
                          by_cases hlm : l2 = m2
                          · have HR1 := Lib.hid ((HR.out _ HBL.out.drew).mono fun e w' h => show e = Ending.returned (.bool true) ∧ _ from ⟨h.1.trans (ret_bool (Lf.same_true hlm).symm), h.2⟩)
                            have HLM := Lib.hid hlm
                            clear HR hlm
                            go_wp2_with fail
                            go_still_tail 10, (by kernel_rfl)
                            change wpList _ _ _ _ _ (World.drew _)
                            go_wp2_with (go_at_call 10; refine HR1.out.mono ?_; rintro e w' ⟨rfl, hB1⟩)
                            go_roundw
                            case rel => exact ⟨j + 1, y, y', by go_num, by omega, by omega, by omega, Lib.hid fun b o hbo _ => by cases hbo; exact HZ.out.1, Lib.hid fun b o hbo _ => by cases hbo; exact HZ.out.2,
                              Lib.hid (ES.out.trans (Ls.sub_eq.trans ⟨fun h => h.2, fun h => ⟨HLM.out, h⟩⟩)), Lib.hid (hP.out.on ((Below.refl _ _).drew.trans hB1) HBL.out.size)⟩
                            case measure => simp [intOf]; omega
                          · have HR1 := Lib.hid ((HR.out _ HBL.out.drew).mono fun e w' h => show e = Ending.returned (.bool false) ∧ _ from ⟨h.1.trans (ret_bool (Lf.same_false hlm).symm), h.2⟩)
                            have HLM := Lib.hid hlm
                            clear HR hlm
                            go_wp2_with fail
                            go_still_tail 10, (by kernel_rfl)
                            change wpList _ _ _ _ _ (World.drew _)
                            go_wp2_with (go_at_call 10; refine HR1.out.mono ?_; rintro e w' ⟨rfl, hB1⟩)
                            go_ret
                            exact ⟨ret_bool (Lf.same_false fun e => by
                              obtain ⟨_, _, _, e4, _⟩ := Lf.node_eq.1 (EQ.out.1 e)
                              exact HLM.out (Ls.sub_eq.1 (ES.out.1 e4)).1), HBL.out.trans (((Below.refl _ _).drew.trans hB1).mono HBL.out.size)⟩
                | cons y1 rs =>
                  cases rs' with
                  | nil => simp at hd2
                  | cons y2 rs' =>
                    simp only [List.length_cons] at hd1 hd2
                    have hlt1 : ds.length < is.length := by omega
                    have hlt2 : ds.length < is'.length := by omega
                    rcases T1.out.1.2 with h30 | ⟨b1, o1, rfl, hb1, ha1⟩
                    · omega
                    rcases T1.out.2.2 with h30 | ⟨b2, o2, rfl, hb2, ha2⟩
                    · omega
                    rw [E1.out] at ha1
                    rw [E2.out] at ha2
                    have u1 := (HBL.out.cell (show b1 < w.heap.size by omega)).trans (Ints.drop _ _ _ _ ha1).1
                    have u2 := (HBL.out.cell (show b2 < w.heap.size by omega)).trans (Ints.drop _ _ _ _ ha2).1
                    have HD := Lib.hid (hP.out.on (Below.refl _ _).drew HBL.out.size)
                    clear ha1 ha2 hP
                    go_wp2_with fail
                    go_region
                    all_goals go_wp2_with fail
                    · have h : (y1 != y2) = true := by assumption
                      go_ret
                      exact ⟨ret_bool (Lf.same_false fun e => by
                        obtain ⟨_, _, e3, _, _⟩ := Lf.node_eq.1 (EQ.out.1 e)
                        rw [E1.out, E2.out] at e3
                        have := (List.append_cancel_left e3)
                        injection this with e6 _
                        rw [e6] at h; simp at h), HBL.out.drew⟩
                    · have h : (y1 != y2) = false := by assumption
                      have hy : y1 = y2 := by simpa using h
                      go_roundw
                      case rel => exact ⟨ds ++ [y1], rs, rs', by rw [List.length_append]; go_num, Lib.hid (by rw [E1.out]; simp), Lib.hid (by rw [E2.out, hy]; simp), by simp; omega, by omega, HD⟩
                      case measure => simp [intOf]; omega
            · have h : ¬ ((is.length : Int) = (is'.length : Int)) := by assumption
              go_ret
              exact ⟨ret_bool (Lf.same_false fun e => by obtain ⟨_, _, e3, _, _⟩ := Lf.node_eq.1 (EQ.out.1 e); exact h (by rw [e3])), (HP2.out _ _ _ _).bel⟩
            · have h : ¬ t = t' := by assumption
              go_ret
              exact ⟨ret_bool (Lf.same_false fun e => by obtain ⟨_, e2, _, _, _⟩ := Lf.node_eq.1 (EQ.out.1 e); exact h e2), (HP2.out _ _ _ _).bel⟩
            · have h : ¬ kd = kd' := by assumption
              go_ret
              exact ⟨ret_bool (Lf.same_false fun e => by obtain ⟨e1, _, _, _, _⟩ := Lf.node_eq.1 (EQ.out.1 e); exact h e1), (HP2.out _ _ _ _).bel⟩
  · go_enter Try.func10, Try.ntmps10
    go_wp2_with fail
    go_ret
    exact ⟨ret_bool (Lf.same_false fun e => hlen (by rw [e])), Below.refl _ _⟩
theorem same_to : ∀ n, SameTo n
  | 0 => fun _ _ h => absurd h (Nat.not_lt_zero _)
  | n + 1 => same_step n (same_to n)
theorem refSame_any (l m : Lf) (p q : Option Addr) (cp cq N : Nat) (w : World) (h1 : l.In w N p) (h2 : m.In w N q) (hN : N ≤ w.heap.size) :
    Calls Try.prog 10 #[.slice p l.len cp, .slice q m.len cq] w fun e w' => e = .returned (.bool (l.same m)) ∧ Below w.heap.size w w' :=
  same_to _ l m (Nat.lt_succ_self _) p q cp cq N w h1 h2 hN
end Go.Proofs.Ytcadeeldogknmaa
