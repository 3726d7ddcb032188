/- L3, L4 as one. -/
import Derived.Test.YtcadeeldogknmaaL2
/- Is each node as its kind says? -/
namespace Go.Proofs.Ytcadeeldogknmaa
open Go.RowKit

def Ls.first : Ls → Lf
  | .nil => .nil
  | .sub l _ => l
mutual
def Lf.shaped : Lf → Bool
  | .nil => true
  | .node k is t s r => fieldsOk k is.length t s.len && (k != 3 || s.first.asks) && s.shaped && r.shaped
def Ls.shaped : Ls → Bool
  | .nil => true
  | .sub l r => l.shaped && r.shaped
end

def ShapedTo (n : Nat) : Prop := ∀ (l : Lf), l.size < n → ∀ (p : Option Addr) (cap N : Nat) (w : World), l.In w N p →
    Calls Try.prog 32 #[.slice p l.len cap] w fun e w' => e = .returned (.bool l.shaped) ∧ w = w'

theorem fields3 {ni : Nat} {t : Bool} {ns : Nat} (h : fieldsOk 3 ni t ns = true) : ns = 1 := by
  simp [fieldsOk] at h; omega

set_option maxHeartbeats 3200000 in
theorem shaped_step (n : Nat) (ih : ShapedTo n) : ShapedTo (n + 1) := by
  intro l hsz p cap N w h
  have IH := Lib.hid ih
  clear ih
  rcases h with ⟨hm, h0 | ⟨b, o, rfl, hb, ha⟩⟩
  · go_enter Try.func32, Try.ntmps32
    go_wp2_with fail
    go_loopw [8] (fun i wr => i = .int .i64 0 ∧ wr = w) (fun i _ => 0)
    case atStart => exact ⟨rfl, rfl⟩
    case round =>
      obtain ⟨rfl, rfl⟩ := hrel
      have hge : ¬ 0 < l.len := by omega
      go_wp2_with fail
      go_ret
      exact ⟨ret_bool (by cases l with | nil => rfl | node => simp [Lf.len] at h0), rfl⟩
  · go_enter Try.func32, Try.ntmps32
    go_wp2_with fail
    go_loopw [8] (fun i wr => ∃ (k : Nat) (r : Lf), i = .int .i64 k ∧ k + r.len = l.len ∧ r.size ≤ n ∧ r.At w N b (o + k * 4) ∧ l.shaped = r.shaped ∧ wr = w)
      (fun i _ => l.len - (intOf i).toNat)
    case atStart => exact ⟨0, l, rfl, by omega, by omega, by rw [Nat.zero_mul]; exact ha, rfl, rfl⟩
    case round =>
      obtain ⟨k, r, rfl, hk, hrs, hr, he, rfl⟩ := hrel
      have E := Lib.hid he
      clear he
      cases r with
      | nil =>
        simp only [Lf.len] at hk
        have hge : ¬ k < l.len := by omega
        go_wp2_with fail
        go_ret
        exact ⟨ret_bool E.out.symm, rfl⟩
      | node kd is t s r =>
        obtain ⟨g0, ⟨q, c, g1, s1⟩, g2, ⟨q3, d, g3, s3⟩, hr⟩ := hr
        simp only [Lf.len] at hk
        simp only [Lf.size] at hrs
        have hlt : k < l.len := by omega
        have HF := Lib.hid (hasFields_any kd q q3 is.length c t s.len d b (o + k * 4) _ g0 g1 g2 g3)
        have E1 := Lib.hid (show (Lf.node kd is t s r).shaped = (fieldsOk kd is.length t s.len && (kd != 3 || s.first.asks) && s.shaped && r.shaped) from by simp [Lf.shaped])
        cases hf : fieldsOk kd is.length t s.len with
        | false =>
          rw [hf] at HF E1
          clear s3 s1
          go_wp2_with (go_at_call 54; refine HF.out.mono ?_; rintro e w' ⟨rfl, rfl⟩)
          go_ret
          exact ⟨ret_bool (by rw [E.out, E1.out]; rfl), rfl⟩
        | true =>
          rw [hf] at HF E1
          clear s1
          rcases s3 with ⟨hm3, h30 | ⟨b3, o3, rfl, hb3, ha3⟩⟩
          · have h3 : (kd == 3) = false := beq_eq_false_iff_ne.2 (by rintro rfl; have := fields3 hf; omega)
            clear hf
            go_wp2_with (go_at_call 54; refine HF.out.mono ?_; rintro e w' ⟨rfl, rfl⟩)
            go_loopw [41] (fun i wr' => i = .int .i64 0 ∧ wr' = wr) (fun i _ => 0)
            case atStart => exact ⟨rfl, rfl⟩
            case round =>
              obtain ⟨rfl, rfl⟩ := hrel
              go_wp2_with fail
              go_roundw
              case rel => exact ⟨k + 1, r, by go_num, by omega, by omega, At_step hr, by rw [E.out, E1.out]; cases s with | nil => simp [Ls.shaped, bne, h3] | sub => simp [Ls.len] at h30, trivial⟩
              case measure => simp [intOf]; omega
          · cases h3 : kd == 3 with
            | false =>
              clear hf
              go_wp2_with (go_at_call 54; refine HF.out.mono ?_; rintro e w' ⟨rfl, rfl⟩)
              go_loopw [41] (fun i wr' => ∃ (j : Nat) (z : Ls), i = .int .i64 j ∧ j + z.len = s.len ∧ z.size ≤ s.size ∧ z.At wr N b3 (o3 + j) ∧ s.shaped = z.shaped ∧ wr' = wr)
                (fun i _ => s.len - (intOf i).toNat)
              case atStart => exact ⟨0, s, rfl, by omega, Nat.le_refl _, ha3, rfl, rfl⟩
              case round =>
                obtain ⟨j, z, rfl, hj, hzs, hz, he3, rfl⟩ := hrel
                have E3 := Lib.hid he3
                clear he3
                cases z with
                | nil =>
                  simp only [Ls.len] at hj
                  have hge : ¬ j < s.len := by omega
                  go_wp2_with fail
                  go_roundw
                  case rel => exact ⟨k + 1, r, by go_num, by omega, by omega, At_step hr, by rw [E.out, E1.out, E3.out]; simp [Ls.shaped, bne, h3], trivial⟩
                  case measure => simp [intOf]; omega
                | sub l2 r2 =>
                  obtain ⟨⟨q4, c4, g4, s4⟩, hz⟩ := hz
                  simp only [Ls.len] at hj
                  simp only [Ls.size] at hzs
                  have hlt3 : j < s.len := by omega
                  have HR := Lib.hid (IH.out l2 (by omega) q4 c4 N _ s4)
                  cases h2 : l2.shaped with
                  | false =>
                    rw [h2] at HR
                    clear s4
                    go_wp2_with (go_at_call 32; refine HR.out.mono ?_; rintro e w' ⟨rfl, rfl⟩)
                    go_ret
                    exact ⟨ret_bool (by rw [E.out, E1.out, E3.out]; simp [Ls.shaped, h2]), rfl⟩
                  | true =>
                    rw [h2] at HR
                    clear s4
                    go_wp2_with (go_at_call 32; refine HR.out.mono ?_; rintro e w' ⟨rfl, rfl⟩)
                    go_roundw
                    case rel => exact ⟨j + 1, r2, by go_num, by omega, by omega, hz, by rw [E3.out]; simp [Ls.shaped, h2], trivial⟩
                    case measure => simp [intOf]; omega
            | true =>
              have hl1 : s.len = 1 := by have := eq_of_beq h3; subst this; exact fields3 hf
              clear hf
              obtain ⟨l0, hl0⟩ : ∃ l0, s = .sub l0 .nil := by
                cases s with
                | nil => simp [Ls.len] at hl1
                | sub l0 r0 => cases r0 with | nil => exact ⟨l0, rfl⟩ | sub => simp [Ls.len] at hl1
              have ha3' := ha3
              rw [hl0] at ha3'
              obtain ⟨⟨q0, c0, g5, s5⟩, _⟩ := ha3'
              have HA := Lib.hid (asks_any l0 q0 c0 N _ s5)
              have E5 := Lib.hid (show s.first = l0 by rw [hl0]; rfl)
              clear hl0 s5
              cases h5 : l0.asks with
              | false =>
                rw [h5] at HA
                go_wp2_with (first | (go_at_call 54; refine HF.out.mono ?_; rintro e w' ⟨rfl, rfl⟩) | (go_at_call 55; refine HA.out.mono ?_; rintro e w' ⟨rfl, rfl⟩))
                go_ret
                exact ⟨ret_bool (by rw [E.out, E1.out, E5.out, h5]; have := eq_of_beq h3; simp [this]), rfl⟩
              | true =>
              rw [h5] at HA
              go_wp2_with (first | (go_at_call 54; refine HF.out.mono ?_; rintro e w' ⟨rfl, rfl⟩) | (go_at_call 55; refine HA.out.mono ?_; rintro e w' ⟨rfl, rfl⟩))
              go_loopw [41] (fun i wr' => ∃ (j : Nat) (z : Ls), i = .int .i64 j ∧ j + z.len = s.len ∧ z.size ≤ s.size ∧ z.At wr N b3 (o3 + j) ∧ s.shaped = z.shaped ∧ wr' = wr)
                (fun i _ => s.len - (intOf i).toNat)
              case atStart => exact ⟨0, s, rfl, by omega, Nat.le_refl _, ha3, rfl, rfl⟩
              case round =>
                obtain ⟨j, z, rfl, hj, hzs, hz, he3, rfl⟩ := hrel
                have E3 := Lib.hid he3
                clear he3
                cases z with
                | nil =>
                  simp only [Ls.len] at hj
                  have hge : ¬ j < s.len := by omega
                  go_wp2_with fail
                  go_roundw
                  case rel => exact ⟨k + 1, r, by go_num, by omega, by omega, At_step hr, by rw [E.out, E1.out, E3.out, E5.out, h5]; simp [Ls.shaped], trivial⟩
                  case measure => simp [intOf]; omega
                | sub l2 r2 =>
                  obtain ⟨⟨q4, c4, g4, s4⟩, hz⟩ := hz
                  simp only [Ls.len] at hj
                  simp only [Ls.size] at hzs
                  have hlt3 : j < s.len := by omega
                  have HR := Lib.hid (IH.out l2 (by omega) q4 c4 N _ s4)
                  cases h2 : l2.shaped with
                  | false =>
                    rw [h2] at HR
                    clear s4
                    go_wp2_with (go_at_call 32; refine HR.out.mono ?_; rintro e w' ⟨rfl, rfl⟩)
                    go_ret
                    exact ⟨ret_bool (by rw [E.out, E1.out, E3.out]; simp [Ls.shaped, h2]), rfl⟩
                  | true =>
                    rw [h2] at HR
                    clear s4
                    go_wp2_with (go_at_call 32; refine HR.out.mono ?_; rintro e w' ⟨rfl, rfl⟩)
                    go_roundw
                    case rel => exact ⟨j + 1, r2, by go_num, by omega, by omega, hz, by rw [E3.out]; simp [Ls.shaped, h2], trivial⟩
                    case measure => simp [intOf]; omega

theorem shaped_to : ∀ n, ShapedTo n
  | 0 => fun _ h => absurd h (Nat.not_lt_zero _)
  | n + 1 => shaped_step n (shaped_to n)
theorem shaped_any (l : Lf) (p : Option Addr) (cap N : Nat) (w : World) (h : l.In w N p) :
    Calls Try.prog 32 #[.slice p l.len cap] w fun e w' => e = .returned (.bool l.shaped) ∧ w = w' :=
  shaped_to _ l (Nat.lt_succ_self _) p cap N w h
end Go.Proofs.Ytcadeeldogknmaa
/- What is done by a closure that may panic: caught; leakage measured. -/
namespace Go.Proofs.Ytcadeeldogknmaa
open Go.RowKit

theorem not_nil (W : World) (u : TypeId) (v : Value) : (binOp .eql 20 (.iface u v) .nilIface).run Try.prog W = .ok (.bool false) W := by kernel_rfl
theorem is_errno (W : World) (y : Int) : (Instr.typeAssert (.iface 28 (.int .i64 y)) 20 28 true).run Try.prog W = .ok (.tuple #[.int .i64 y, .bool true]) W := by kernel_rfl
set_option maxHeartbeats 1600000 in
theorem caught_idle (p : Addr) (w : World) :
    CallsD Try.prog 45 #[.pointer (some p)] .returning w fun e u' w' => e = .returned (.tuple #[]) ∧ u' = .returning ∧ w' = w := by
  refine callsD_of_wpS Try.func45 rfl fun c₀ cs hu => ?_
  apply wpS_seq
  apply wpS_region
  simp [wpOpsS, go_sem, recoverD, hu, Try.ntmps45, Exit.thenS]
  refine wpS_of_wp ?_
  go_wp2
  cases c₀
  simp_all [bodyPostS, results, Try.results45]

set_option maxHeartbeats 1600000 in
theorem caught_panicking (p : Addr) (x y : Int) (older : List PanicEntry) (w : World) (hc : w.cell? p = some (.int .i64 x)) (hz : w.frozen? p = false) :
    CallsD Try.prog 45 #[.pointer (some p)] (.panicking ({ v := .iface 28 (.int .i64 y), recovered := false } :: older)) w fun e u' w' =>
      e = .returned (.tuple #[]) ∧ u' = .panicking ({ v := .iface 28 (.int .i64 y), recovered := true } :: older) ∧ w' = w.setCell p (.int .i64 y) := by
  refine callsD_of_wpS Try.func45 rfl fun c₀ cs hu => ?_
  apply wpS_seq
  apply wpS_region
  simp [wpOpsS, go_sem, recoverD, hu, Try.ntmps45, Exit.thenS]
  refine wpS_of_wp ?_
  have h1 := not_nil
  have h2 := is_errno
  go_wp2
  cases c₀
  simp_all [bodyPostS, results, Try.results45]
end Go.Proofs.Ytcadeeldogknmaa
