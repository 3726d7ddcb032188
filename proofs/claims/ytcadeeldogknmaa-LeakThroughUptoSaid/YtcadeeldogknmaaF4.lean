/- F3, F4 as one. -/
import Derived.Test.YtcadeeldogknmaaF1
import Derived.Test.YtcadeeldogknmaaL4
import Derived.StillTailTactics
import Derived.Deep.CutBlock
import Derived.Deep.CutRange
/- Is each node as it should be: the document's. -/
namespace Go.Proofs.Ytcadeeldogknmaa
open Go.RowKit

def Ls.oneFull : Ls → Bool
  | .sub l .nil => l.len != 0
  | _ => false
def Lf.asks2 : Lf → Bool
  | .nil => true
  | .node k _ t s r => (k == 1 || (k == 2 && (t || (r.len == 0 && !s.oneFull)))) && r.asks2

set_option maxHeartbeats 3200000 in
theorem loop_any (l : Lf) (p : Option Addr) (cap N : Nat) (w : World) (h : l.In w N p) :
    Calls Try.prog 27 #[.slice p l.len cap] w fun e w' => e = .returned (.bool l.asks2) ∧ w = w' := by
  rcases h with ⟨hm, h0 | ⟨b, o, rfl, hb, ha⟩⟩
  · go_enter Try.func27, Try.ntmps27
    go_wp2_with fail
    go_loopw [3] (fun i wr => i = .int .i64 0 ∧ wr = w) (fun i _ => 0)
    case atStart => exact ⟨rfl, rfl⟩
    case round =>
      obtain ⟨rfl, rfl⟩ := hrel
      have hge : ¬ 0 < l.len := by omega
      go_wp2_with fail
      go_ret
      exact ⟨ret_bool (by cases l with | nil => rfl | node => simp [Lf.len] at h0), rfl⟩
  · go_enter Try.func27, Try.ntmps27
    go_wp2_with fail
    go_loopw [3] (fun i wr => ∃ (k : Nat) (r : Lf), i = .int .i64 k ∧ k + r.len = l.len ∧ r.At w N b (o + k * 4) ∧ l.asks2 = r.asks2 ∧ wr = w)
      (fun i _ => l.len - (intOf i).toNat)
    case atStart => exact ⟨0, l, rfl, by omega, by rw [Nat.zero_mul]; exact ha, rfl, rfl⟩
    case round =>
      obtain ⟨k, r, rfl, hk, hr, he, rfl⟩ := hrel
      have E := Lib.hid he
      clear he
      cases r with
      | nil =>
        simp only [Lf.len] at hk
        have hge : ¬ k < l.len := by omega
        go_wp2_with fail
        go_ret
        exact ⟨ret_bool E.out.symm, rfl⟩
      | node kd is t s r =>
        obtain ⟨g0, ⟨q, c, g1, s1⟩, g2, ⟨q3, d, g3, s3⟩, hr⟩ := hr
        have E1 := Lib.hid (show (Lf.node kd is t s r).asks2 = ((kd == 1 || (kd == 2 && (t || (r.len == 0 && !s.oneFull)))) && r.asks2) from rfl)
        simp only [Lf.len] at hk
        have hlt : k < l.len := by omega
        have hk0 : 0 ≤ (l.len : Int) - 1 := by omega
        have HR := Lib.hid hr
        clear hr s1
        have hcase : s = .nil ∨ (∃ l0, s = .sub l0 .nil) ∨ ∃ l0 l1 s1, s = .sub l0 (.sub l1 s1) := by
          cases s with
          | nil => exact .inl rfl
          | sub l0 s0 => cases s0 with
            | nil => exact .inr (.inl ⟨l0, rfl⟩)
            | sub l1 s1 => exact .inr (.inr ⟨l0, l1, s1, rfl⟩)
        rcases hcase with rfl | ⟨l0, rfl⟩ | ⟨l0, l1, s1, rfl⟩
        all_goals by_cases hz : r.len = 0
        all_goals first
          | have hkn : ((k : Int) != (l.len : Int) - 1) = false := by simp; omega
          | have hkn : ((k : Int) != (l.len : Int) - 1) = true := by simp; omega
        all_goals simp only [Ls.len] at g3
        · clear s3
          have hone : Ls.nil.oneFull = false := rfl
          go_wp2_with fail
          all_goals first
            | (go_ret; refine ⟨ret_bool ?_, rfl⟩; rw [E.out, E1.out]; apply bool_of; simp_all; done)
            | (go_ret; refine ⟨ret_bool ?_, rfl⟩; rw [E.out, E1.out]; apply bool_of; simp_all; omega)
            | (go_roundw
               case rel => refine ⟨k + 1, r, by go_num, by omega, At_step HR.out, ?_, trivial⟩; rw [E.out, E1.out]; apply bool_of; (try have hz0 : l0.len = 0 := by omega); simp_all
               case measure => simp [intOf]; omega)
        · clear s3
          have hone : Ls.nil.oneFull = false := rfl
          go_wp2_with fail
          all_goals first
            | (go_ret; refine ⟨ret_bool ?_, rfl⟩; rw [E.out, E1.out]; apply bool_of; simp_all; done)
            | (go_ret; refine ⟨ret_bool ?_, rfl⟩; rw [E.out, E1.out]; apply bool_of; simp_all; omega)
            | (go_roundw
               case rel => refine ⟨k + 1, r, by go_num, by omega, At_step HR.out, ?_, trivial⟩; rw [E.out, E1.out]; apply bool_of; (try have hz0 : l0.len = 0 := by omega); simp_all
               case measure => simp [intOf]; omega)
        · rcases s3.2 with h30 | ⟨b3, o3, rfl, hb3, ⟨⟨q4, c4, g4, s4⟩, _⟩⟩
          · simp [Ls.len] at h30
          clear s3 s4
          have hone : (Ls.sub l0 .nil).oneFull = (l0.len != 0) := rfl
          go_wp2_with fail
          all_goals first
            | (go_ret; refine ⟨ret_bool ?_, rfl⟩; rw [E.out, E1.out]; apply bool_of; simp_all; done)
            | (go_ret; refine ⟨ret_bool ?_, rfl⟩; rw [E.out, E1.out]; apply bool_of; simp_all; omega)
            | (go_roundw
               case rel => refine ⟨k + 1, r, by go_num, by omega, At_step HR.out, ?_, trivial⟩; rw [E.out, E1.out]; apply bool_of; (try have hz0 : l0.len = 0 := by omega); simp_all
               case measure => simp [intOf]; omega)
        · rcases s3.2 with h30 | ⟨b3, o3, rfl, hb3, ⟨⟨q4, c4, g4, s4⟩, _⟩⟩
          · simp [Ls.len] at h30
          clear s3 s4
          have hone : (Ls.sub l0 .nil).oneFull = (l0.len != 0) := rfl
          go_wp2_with fail
          all_goals first
            | (go_ret; refine ⟨ret_bool ?_, rfl⟩; rw [E.out, E1.out]; apply bool_of; simp_all; done)
            | (go_ret; refine ⟨ret_bool ?_, rfl⟩; rw [E.out, E1.out]; apply bool_of; simp_all; omega)
            | (go_roundw
               case rel => refine ⟨k + 1, r, by go_num, by omega, At_step HR.out, ?_, trivial⟩; rw [E.out, E1.out]; apply bool_of; (try have hz0 : l0.len = 0 := by omega); simp_all
               case measure => simp [intOf]; omega)
        · have hne : ((((s1.len + 1 + 1 : Nat)) : Int) == 1) = false := by simp; omega
          clear s3
          have hone : (Ls.sub l0 (.sub l1 s1)).oneFull = false := rfl
          go_wp2_with fail
          all_goals first
            | (go_ret; refine ⟨ret_bool ?_, rfl⟩; rw [E.out, E1.out]; apply bool_of; simp_all; done)
            | (go_ret; refine ⟨ret_bool ?_, rfl⟩; rw [E.out, E1.out]; apply bool_of; simp_all; omega)
            | (go_roundw
               case rel => refine ⟨k + 1, r, by go_num, by omega, At_step HR.out, ?_, trivial⟩; rw [E.out, E1.out]; apply bool_of; (try have hz0 : l0.len = 0 := by omega); simp_all
               case measure => simp [intOf]; omega)
        · have hne : ((((s1.len + 1 + 1 : Nat)) : Int) == 1) = false := by simp; omega
          clear s3
          have hone : (Ls.sub l0 (.sub l1 s1)).oneFull = false := rfl
          go_wp2_with fail
          all_goals first
            | (go_ret; refine ⟨ret_bool ?_, rfl⟩; rw [E.out, E1.out]; apply bool_of; simp_all; done)
            | (go_ret; refine ⟨ret_bool ?_, rfl⟩; rw [E.out, E1.out]; apply bool_of; simp_all; omega)
            | (go_roundw
               case rel => refine ⟨k + 1, r, by go_num, by omega, At_step HR.out, ?_, trivial⟩; rw [E.out, E1.out]; apply bool_of; (try have hz0 : l0.len = 0 := by omega); simp_all
               case measure => simp [intOf]; omega)
end Go.Proofs.Ytcadeeldogknmaa
/- Is each node as it should be: the document's, and the program's: they are the same. -/
namespace Go.Proofs.Ytcadeeldogknmaa
open Go.RowKit

mutual
def Lf.fits : Lf → Bool
  | .nil => true
  | .node k is t s r => fieldsOk k is.length t s.len && (k != 3 || s.first.asks2) && s.fits && r.fits
def Ls.fits : Ls → Bool
  | .nil => true
  | .sub l r => l.fits && r.fits
end
theorem Lf.asks2_asks : ∀ l : Lf, l.shaped = true → l.asks2 = l.asks
  | .nil, _ => rfl
  | .node k is t s r, h => by
    simp only [Lf.shaped, Bool.and_eq_true] at h
    obtain ⟨⟨⟨h1, _⟩, _⟩, h2⟩ := h
    simp only [Lf.asks2, Lf.asks, Lf.asks2_asks r h2]
    by_cases hk : k = 2
    · subst hk
      have hs : s.len = 1 := by simpa [fieldsOk] using h1
      have : s.oneFull = !s.empty := by
        match s, hs with
        | .sub l .nil, _ => simp [Ls.oneFull, Ls.empty, bne]
      rw [this]; simp
    · have : (k == 2) = false := by simpa using hk
      simp [this]
theorem first_shaped : ∀ s : Ls, s.shaped = true → s.first.shaped = true
  | .nil, _ => rfl
  | .sub l r, h => by simp only [Ls.shaped, Bool.and_eq_true] at h; exact h.1
mutual
theorem Lf.fits_shaped : ∀ l : Lf, l.fits = l.shaped
  | .nil => rfl
  | .node k is t s r => by
    simp only [Lf.fits, Lf.shaped, Lf.fits_shaped r, Ls.fits_shaped s]
    by_cases hs : s.shaped = true
    · rw [Lf.asks2_asks _ (first_shaped s hs)]
    · simp [hs]
theorem Ls.fits_shaped : ∀ l : Ls, l.fits = l.shaped
  | .nil => rfl
  | .sub l r => by simp only [Ls.fits, Ls.shaped, Lf.fits_shaped l, Ls.fits_shaped r]
end

structure XG (g : Nat) (q3 : Option Addr) (n3 d3 : Nat) (B : Nat) (w wr : World) : Prop where
  bel : Below B w wr
  x3 : wr.cell? ⟨g, 3, none⟩ = some (.slice q3 n3 d3)
theorem XG.on {g n3 d3 : Nat} {q3 : Option Addr} {B : Nat} {w wr w' : World} (h : XG g q3 n3 d3 B w wr) (hB : Below wr.heap.size wr w') (hs : B ≤ wr.heap.size) : XG g q3 n3 d3 B w w' :=
  ⟨h.bel.trans (hB.mono hs), (hB.cell (World.block_lt_of_cell? _ _ h.x3)).trans h.x3⟩
def FitsTo (n : Nat) : Prop := ∀ (l : Lf), l.size < n → ∀ (p : Option Addr) (cap N : Nat) (w : World), l.In w N p → N ≤ w.heap.size →
    Calls Try.prog 11 #[.slice p l.len cap] w fun e w' => e = .returned (.bool l.fits) ∧ Below w.heap.size w w'

set_option maxRecDepth 100000 in
set_option maxHeartbeats 6400000 in
theorem fits_step (n : Nat) (ih : FitsTo n) : FitsTo (n + 1) := by
  intro l hsz p cap N w h hN
  have IH := Lib.hid ih
  clear ih
  have S0 := Lib.hid h
  have hm := h.1
  clear h
  go_enter Try.func11, Try.ntmps11
  go_wp2_with fail
  go_loopw [3] (fun i wr => ∃ (k : Nat) (r : Lf), i = .int .i64 k ∧ k + r.len = l.len ∧ r.size ≤ n ∧ Hid (∀ b o, p = some ⟨b, o, none⟩ → l.At w N b o → r.At w N b (o + k * 4)) ∧ Hid (l.fits = r.fits) ∧ Hid (Below w.heap.size w wr))
    (fun i _ => l.len - (intOf i).toNat)
  case atStart => exact ⟨0, l, rfl, by omega, by omega, Lib.hid fun b o _ h => by rw [Nat.zero_mul]; exact h, Lib.hid rfl, Lib.hid (Below.refl _ _)⟩
  case round =>
    obtain ⟨k, r, rfl, hk, hrs, hat, EW, hB⟩ := hrel
    cases r with
    | nil =>
      simp only [Lf.len] at hk
      have hge : ¬ k < l.len := by omega
      go_wp2_with fail
      go_ret
      exact ⟨ret_bool EW.out.symm, hB.out⟩
    | node kd is t s r =>
      simp only [Lf.len] at hk
      simp only [Lf.size] at hrs
      have hlt : k < l.len := by omega
      rcases S0.out.2 with h30 | ⟨b, o, rfl, hb, ha⟩
      · omega
      obtain ⟨g0', ⟨q, cq, g1', s1⟩, g2', ⟨q3, d3, g3', s3⟩, hr⟩ := hat.out b o rfl ha
      generalize hni : is.length = ni at g1'
      generalize hns : s.len = ns at g3'
      generalize hask : s.first.asks2 = ask
      have g0 := (hB.out.cell (show b < w.heap.size by omega)).trans g0'
      have g1 := (hB.out.cell (show b < w.heap.size by omega)).trans g1'
      have g2 := (hB.out.cell (show b < w.heap.size by omega)).trans g2'
      have g3 := (hB.out.cell (show b < w.heap.size by omega)).trans g3'
      have HQ := Lib.hid hr
      have S3 := Lib.hid s3
      have hm3 : ns ≤ 140737488355328 := by rw [← hns]; exact s3.1
      have hm1 : ni ≤ 140737488355328 := by rw [← hni]; exact s1.1
      have HNS := Lib.hid hns
      have E1 := Lib.hid (show l.fits = (fieldsOk kd ni t ns && (kd != 3 || ask) && s.fits && r.fits) from by rw [EW.out]; simp [Lf.fits, hni, hns, hask])
      have HX := Lib.hid (show XG wr.heap.size q3 ns d3 w.heap.size w (wr.alloc (Obj.cells #[.int .i64 kd, .slice q ni cq, .bool t, .slice q3 ns d3] 47)) from
        ⟨hB.out.trans (((Below.refl _ wr).alloc (Nat.le_refl _) _).mono hB.out.size), by simp [go_sem]⟩)
      have HL1 := Lib.hid (show ns = 1 → ∃ b3 o3 q5 n5 c5, q3 = some ⟨b3, o3, none⟩ ∧ wr.cell? ⟨b3, o3, none⟩ = some (.slice q5 n5 c5) ∧ ∀ (w1 : World), Below wr.heap.size wr w1 → Calls Try.prog 27 #[.slice q5 n5 c5] w1 fun e w' => e = .returned (.bool ask) ∧ w1 = w' from by
        intro h1
        match s, hns, hask, s3 with
        | .sub l0 .nil, _, ha0, s3 =>
          rcases s3.2 with h30 | ⟨b3, o3, rfl, hb3, ha3⟩
          · simp [Ls.len] at h30
          · obtain ⟨⟨q5, c5, g5, s5⟩, _⟩ := ha3
            subst ha0
            exact ⟨b3, o3, q5, l0.len, c5, rfl, (hB.out.cell (show b3 < w.heap.size by omega)).trans g5, fun w1 hb1 => loop_any l0 q5 c5 N w1 (Lf.In.later s5 ((hB.out.trans (hb1.mono hB.out.size)).mono hN) (Nat.le_refl _))⟩
        | .nil, h, _, _ => simp [Ls.len] at h; omega
        | .sub _ (.sub _ _), h, _, _ => simp [Ls.len] at h; omega)
      clear hr ha s1 s3 g0' g1' g2' g3' hni hns hask EW
      go_upto_block 2 with fail
      go_cut [4, 5] from 7 to 97 (fun s4 s5 wx => s4 = .pointer (some ⟨wr.heap.size, 0, none⟩) ∧ s5 = .bool (fieldsOk kd ni t ns && (kd != 3 || ask)) ∧ Hid (XG wr.heap.size q3 ns d3 w.heap.size w wx))
      case first =>
        clear IH S0 hat HQ S3 hB
        have hnc : ns = 0 ∨ ns = 1 ∨ ∃ m, ns = m + 2 := by
          match ns with
          | 0 => exact .inl rfl
          | 1 => exact .inr (.inl rfl)
          | m + 2 => exact .inr (.inr ⟨m, rfl⟩)
        have hkc : kd = 1 ∨ kd = 2 ∨ kd = 3 ∨ kd = 4 ∨ kd = 5 ∨ ((kd == 1) = false ∧ (kd == 2) = false ∧ (kd == 3) = false ∧ (kd == 4) = false ∧ (kd == 5) = false) := by simp; omega
        cases ni with
        | zero =>
          rcases hnc with rfl | rfl | ⟨m, rfl⟩
          · rcases hkc with rfl | rfl | rfl | rfl | rfl | ⟨k1, k2, k3, k4, k5⟩
            all_goals cases t
            all_goals go_wp2_with fail
            all_goals go_meet
            all_goals (refine ⟨rfl, congrArg Value.bool ?_, HX⟩; (first | rfl | (apply bool_of; simp_all [fieldsOk])))
          · obtain ⟨b3', o3', q5, n5, c5, rfl, g5, hA⟩ := HL1.out rfl
            have HA := Lib.hid (hA _ ((Below.refl _ _).alloc (Nat.le_refl _) (Obj.cells #[.int .i64 3, .slice q (0 : Nat) cq, .bool false, .slice (some ⟨b3', o3', none⟩) 1 d3] 47)))
            have g5a := fun (o : Obj) => (World.cell?_alloc_past o _ _ (World.block_lt_of_cell? _ _ g5)).trans g5
            clear hA HL1
            rcases hkc with rfl | rfl | rfl | rfl | rfl | ⟨k1, k2, k3, k4, k5⟩
            all_goals cases t
            all_goals go_wp2_with (go_at_call 27; refine HA.out.mono ?_; rintro e w' ⟨rfl, rfl⟩)
            all_goals go_meet
            all_goals (refine ⟨rfl, congrArg Value.bool ?_, HX⟩; (first | rfl | (apply bool_of; simp_all [fieldsOk])))
          · have hne : ((((m + 1 + 1 : Nat)) : Int) == 1) = false := by simp; omega
            have hne2 : ((((m + 1 + 1 : Nat)) : Int) == 0) = false := by simp; omega
            rcases hkc with rfl | rfl | rfl | rfl | rfl | ⟨k1, k2, k3, k4, k5⟩
            all_goals cases t
            all_goals go_wp2_with fail
            all_goals go_meet
            all_goals (refine ⟨rfl, congrArg Value.bool ?_, HX⟩; (first | rfl | (apply bool_of; simp_all [fieldsOk])))
        | succ ni =>
          have hni0 : ((((ni + 1 : Nat)) : Int) == 0) = false := by simp; omega
          rcases hnc with rfl | rfl | ⟨m, rfl⟩
          · rcases hkc with rfl | rfl | rfl | rfl | rfl | ⟨k1, k2, k3, k4, k5⟩
            all_goals cases t
            all_goals go_wp2_with fail
            all_goals go_meet
            all_goals (refine ⟨rfl, congrArg Value.bool ?_, HX⟩; (first | rfl | (apply bool_of; simp_all [fieldsOk])))
          · rcases hkc with rfl | rfl | rfl | rfl | rfl | ⟨k1, k2, k3, k4, k5⟩
            all_goals cases t
            all_goals go_wp2_with fail
            all_goals go_meet
            all_goals (refine ⟨rfl, congrArg Value.bool ?_, HX⟩; (first | rfl | (apply bool_of; simp_all [fieldsOk])))
          · have hne : ((((m + 1 + 1 : Nat)) : Int) == 1) = false := by simp; omega
            have hne2 : ((((m + 1 + 1 : Nat)) : Int) == 0) = false := by simp; omega
            rcases hkc with rfl | rfl | rfl | rfl | rfl | ⟨k1, k2, k3, k4, k5⟩
            all_goals cases t
            all_goals go_wp2_with fail
            all_goals go_meet
            all_goals (refine ⟨rfl, congrArg Value.bool ?_, HX⟩; (first | rfl | (apply bool_of; simp_all [fieldsOk])))
      case rest =>
        obtain ⟨rfl, rfl, HX⟩ := hcut
        have HBX := Lib.hid HX.out.bel
        generalize hok : (fieldsOk kd ni t ns && (kd != 3 || ask)) = ok at E1 ⊢
        cases ok with
        | false =>
          clear hok HL1
          go_wp2_with fail
          go_ret
          exact ⟨ret_bool (by rw [E1.out]; rfl), HBX.out⟩
        | true =>
          have E2 := Lib.hid (show l.fits = (s.fits && r.fits) from by rw [E1.out]; simp)
          clear hok E1 HL1 g0 g1 g2 g3
          go_wp2_with fail
          go_loopw [6] (fun i wr' => ∃ (j : Nat) (z : Ls), i = .int .i64 j ∧ j + z.len = ns ∧ z.size ≤ s.size ∧ Hid (∀ b o, q3 = some ⟨b, o, none⟩ → s.At w N b o → z.At w N b (o + j)) ∧ Hid (s.fits = z.fits) ∧ Hid (XG wr.heap.size q3 ns d3 w.heap.size w wr')) (fun i _ => ns - (intOf i).toNat)
          case atStart => exact ⟨0, s, rfl, by have := HNS.out; omega, Nat.le_refl _, Lib.hid fun b o _ h => h, Lib.hid rfl, HX⟩
          case round =>
            clear HX HBX
            obtain ⟨j, z, rfl, hj3, hzs, hza, ES, hP⟩ := hrel
            obtain ⟨bel, x3⟩ := hP.out
            have HBL := Lib.hid bel
            clear bel
            cases z with
            | nil =>
              simp only [Ls.len] at hj3
              have hge3 : ¬ j < ns := by omega
              go_wp2_with fail
              go_roundw
              case rel => exact ⟨k + 1, r, by go_num, by omega, by omega, Lib.hid fun b' o' hbo _ => by cases hbo; exact At_stepL HQ.out, Lib.hid (by rw [E2.out, ES.out]; simp [Ls.fits]), HBL⟩
              case measure => simp [intOf]; omega
            | sub l2 r2 =>
              simp only [Ls.len] at hj3
              simp only [Ls.size] at hzs
              have hlt3 : j < ns := by omega
              rcases S3.out.2 with h30 | ⟨b3, o3, rfl, hb3, ha3⟩
              · have := HNS.out; omega
              obtain ⟨⟨q4, c4, g4, s4⟩, hzz⟩ := hza.out b3 o3 rfl ha3
              have f4 := (HBL.out.cell (show b3 < w.heap.size by omega)).trans g4
              have HR := Lib.hid (IH.out l2 (by omega) q4 c4 N _ (s4.imp (Nat.le_refl _) fun b' o' hb' ha' => Lf.At.later (HBL.out.mono hN) (Nat.le_refl _) _ _ _ hb' ha') (Nat.le_trans hN HBL.out.size))
              have HZ := Lib.hid hzz
              clear g4 s4 hzz ha3
              cases hl2 : l2.fits with
              | false =>
                rw [hl2] at HR
                have HL2 := Lib.hid hl2
                clear hl2
                go_wp2_with (go_at_call 11; refine HR.out.mono ?_; rintro e w1 ⟨rfl, hB1⟩)
                go_ret
                exact ⟨ret_bool (by rw [E2.out, ES.out]; simp [Ls.fits, HL2.out]), HBL.out.trans (hB1.mono HBL.out.size)⟩
              | true =>
                rw [hl2] at HR
                have HL2 := Lib.hid hl2
                clear hl2
                go_wp2_with (go_at_call 11; refine HR.out.mono ?_; rintro e w1 ⟨rfl, hB1⟩)
                go_roundw
                case rel => exact ⟨j + 1, r2, by go_num, by omega, by omega, Lib.hid fun b' o' hbo _ => by cases hbo; exact HZ.out, Lib.hid (by rw [ES.out]; simp [Ls.fits, HL2.out]), Lib.hid (hP.out.on hB1 HBL.out.size)⟩
                case measure => simp [intOf]; omega
theorem fits_to : ∀ n, FitsTo n
  | 0 => fun _ h => absurd h (Nat.not_lt_zero _)
  | n + 1 => fits_step n (fits_to n)
theorem fits_any (l : Lf) (p : Option Addr) (cap N : Nat) (w : World) (h : l.In w N p) (hN : N ≤ w.heap.size) :
    Calls Try.prog 11 #[.slice p l.len cap] w fun e w' => e = .returned (.bool l.shaped) ∧ Below w.heap.size w w' :=
  (fits_to _ l (Nat.lt_succ_self _) p cap N w h hN).mono fun _e _w' ⟨he, hb⟩ => ⟨he.trans (ret_bool l.fits_shaped), hb⟩
end Go.Proofs.Ytcadeeldogknmaa
