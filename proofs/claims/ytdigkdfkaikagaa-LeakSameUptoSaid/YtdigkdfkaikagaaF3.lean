/- Is each node as it should be: the document's. -/
import Derived.Test.YtdigkdfkaikagaaF1
import Derived.Test.YtdigkdfkaikagaaL3
import Derived.StillTailTactics
namespace Go.Proofs.Ytdigkdfkaikagaa
open Go.RowKit

def Ls.oneFull : Ls → Bool
  | .sub l .nil => l.len != 0
  | _ => false
def Lf.asks2 : Lf → Bool
  | .nil => true
  | .node k _ t s r => (k == 1 || (k == 2 && (t || (r.len == 0 && !s.oneFull)))) && r.asks2

set_option maxHeartbeats 3200000 in
theorem loop_any (l : Lf) (p : Option Addr) (cap N : Nat) (w : World) (h : l.In w N p) :
    Calls Try.prog 40 #[.slice p l.len cap] w fun e w' => e = .returned (.bool l.asks2) ∧ w = w' := by
  rcases h with ⟨hm, h0 | ⟨b, o, rfl, hb, ha⟩⟩
  · go_enter Try.func40, Try.ntmps40
    go_wp2_with fail
    go_loopw [3] (fun i wr => i = .int .i64 0 ∧ wr = w) (fun i _ => 0)
    case atStart => exact ⟨rfl, rfl⟩
    case round =>
      obtain ⟨rfl, rfl⟩ := hrel
      have hge : ¬ 0 < l.len := by omega
      go_wp2_with fail
      go_ret
      exact ⟨ret_bool (by cases l with | nil => rfl | node => simp [Lf.len] at h0), rfl⟩
  · go_enter Try.func40, Try.ntmps40
    go_wp2_with fail
    go_loopw [3] (fun i wr => ∃ (k : Nat) (r : Lf), i = .int .i64 k ∧ k + r.len = l.len ∧ r.At w N b (o + k * 4) ∧ l.asks2 = r.asks2 ∧ wr = w)
      (fun i _ => l.len - (intOf i).toNat)
    case atStart => exact ⟨0, l, rfl, by omega, by rw [Nat.zero_mul]; exact ha, rfl, rfl⟩
    case round =>
      obtain ⟨k, r, rfl, hk, hr, he, rfl⟩ := hrel
      have E := Lib.hid he
      clear he
      cases r with
      | nil =>
        simp only [Lf.len] at hk
        have hge : ¬ k < l.len := by omega
        go_wp2_with fail
        go_ret
        exact ⟨ret_bool E.out.symm, rfl⟩
      | node kd is t s r =>
        obtain ⟨g0, ⟨q, c, g1, s1⟩, g2, ⟨q3, d, g3, s3⟩, hr⟩ := hr
        have E1 := Lib.hid (show (Lf.node kd is t s r).asks2 = ((kd == 1 || (kd == 2 && (t || (r.len == 0 && !s.oneFull)))) && r.asks2) from rfl)
        simp only [Lf.len] at hk
        have hlt : k < l.len := by omega
        have hk0 : 0 ≤ (l.len : Int) - 1 := by omega
        have HR := Lib.hid hr
        clear hr s1
        have hcase : s = .nil ∨ (∃ l0, s = .sub l0 .nil) ∨ ∃ l0 l1 s1, s = .sub l0 (.sub l1 s1) := by
          cases s with
          | nil => exact .inl rfl
          | sub l0 s0 => cases s0 with
            | nil => exact .inr (.inl ⟨l0, rfl⟩)
            | sub l1 s1 => exact .inr (.inr ⟨l0, l1, s1, rfl⟩)
        rcases hcase with rfl | ⟨l0, rfl⟩ | ⟨l0, l1, s1, rfl⟩
        all_goals by_cases hz : r.len = 0
        all_goals first
          | have hkn : ((k : Int) != (l.len : Int) - 1) = false := by simp; omega
          | have hkn : ((k : Int) != (l.len : Int) - 1) = true := by simp; omega
        all_goals simp only [Ls.len] at g3
        · clear s3
          have hone : Ls.nil.oneFull = false := rfl
          go_wp2_with fail
          all_goals first
            | (go_ret; refine ⟨ret_bool ?_, rfl⟩; rw [E.out, E1.out]; apply bool_of; simp_all; done)
            | (go_ret; refine ⟨ret_bool ?_, rfl⟩; rw [E.out, E1.out]; apply bool_of; simp_all; omega)
            | (go_roundw
               case rel => refine ⟨k + 1, r, by go_num, by omega, At_step HR.out, ?_, trivial⟩; rw [E.out, E1.out]; apply bool_of; (try have hz0 : l0.len = 0 := by omega); simp_all
               case measure => simp [intOf]; omega)
        · clear s3
          have hone : Ls.nil.oneFull = false := rfl
          go_wp2_with fail
          all_goals first
            | (go_ret; refine ⟨ret_bool ?_, rfl⟩; rw [E.out, E1.out]; apply bool_of; simp_all; done)
            | (go_ret; refine ⟨ret_bool ?_, rfl⟩; rw [E.out, E1.out]; apply bool_of; simp_all; omega)
            | (go_roundw
               case rel => refine ⟨k + 1, r, by go_num, by omega, At_step HR.out, ?_, trivial⟩; rw [E.out, E1.out]; apply bool_of; (try have hz0 : l0.len = 0 := by omega); simp_all
               case measure => simp [intOf]; omega)
        · rcases s3.2 with h30 | ⟨b3, o3, rfl, hb3, ⟨⟨q4, c4, g4, s4⟩, _⟩⟩
          · simp [Ls.len] at h30
          clear s3 s4
          have hone : (Ls.sub l0 .nil).oneFull = (l0.len != 0) := rfl
          go_wp2_with fail
          all_goals first
            | (go_ret; refine ⟨ret_bool ?_, rfl⟩; rw [E.out, E1.out]; apply bool_of; simp_all; done)
            | (go_ret; refine ⟨ret_bool ?_, rfl⟩; rw [E.out, E1.out]; apply bool_of; simp_all; omega)
            | (go_roundw
               case rel => refine ⟨k + 1, r, by go_num, by omega, At_step HR.out, ?_, trivial⟩; rw [E.out, E1.out]; apply bool_of; (try have hz0 : l0.len = 0 := by omega); simp_all
               case measure => simp [intOf]; omega)
        · rcases s3.2 with h30 | ⟨b3, o3, rfl, hb3, ⟨⟨q4, c4, g4, s4⟩, _⟩⟩
          · simp [Ls.len] at h30
          clear s3 s4
          have hone : (Ls.sub l0 .nil).oneFull = (l0.len != 0) := rfl
          go_wp2_with fail
          all_goals first
            | (go_ret; refine ⟨ret_bool ?_, rfl⟩; rw [E.out, E1.out]; apply bool_of; simp_all; done)
            | (go_ret; refine ⟨ret_bool ?_, rfl⟩; rw [E.out, E1.out]; apply bool_of; simp_all; omega)
            | (go_roundw
               case rel => refine ⟨k + 1, r, by go_num, by omega, At_step HR.out, ?_, trivial⟩; rw [E.out, E1.out]; apply bool_of; (try have hz0 : l0.len = 0 := by omega); simp_all
               case measure => simp [intOf]; omega)
        · have hne : ((((s1.len + 1 + 1 : Nat)) : Int) == 1) = false := by simp; omega
          clear s3
          have hone : (Ls.sub l0 (.sub l1 s1)).oneFull = false := rfl
          go_wp2_with fail
          all_goals first
            | (go_ret; refine ⟨ret_bool ?_, rfl⟩; rw [E.out, E1.out]; apply bool_of; simp_all; done)
            | (go_ret; refine ⟨ret_bool ?_, rfl⟩; rw [E.out, E1.out]; apply bool_of; simp_all; omega)
            | (go_roundw
               case rel => refine ⟨k + 1, r, by go_num, by omega, At_step HR.out, ?_, trivial⟩; rw [E.out, E1.out]; apply bool_of; (try have hz0 : l0.len = 0 := by omega); simp_all
               case measure => simp [intOf]; omega)
        · have hne : ((((s1.len + 1 + 1 : Nat)) : Int) == 1) = false := by simp; omega
          clear s3
          have hone : (Ls.sub l0 (.sub l1 s1)).oneFull = false := rfl
          go_wp2_with fail
          all_goals first
            | (go_ret; refine ⟨ret_bool ?_, rfl⟩; rw [E.out, E1.out]; apply bool_of; simp_all; done)
            | (go_ret; refine ⟨ret_bool ?_, rfl⟩; rw [E.out, E1.out]; apply bool_of; simp_all; omega)
            | (go_roundw
               case rel => refine ⟨k + 1, r, by go_num, by omega, At_step HR.out, ?_, trivial⟩; rw [E.out, E1.out]; apply bool_of; (try have hz0 : l0.len = 0 := by omega); simp_all
               case measure => simp [intOf]; omega)
end Go.Proofs.Ytdigkdfkaikagaa
