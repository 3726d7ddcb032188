/- What the program asks of leakage: is it as its kinds say? -/
import Derived.Test.YtdigkdfkaikagaaL1
namespace Go.Proofs.Ytdigkdfkaikagaa
open Go.RowKit

def Ls.empty : Ls → Bool
  | .nil => true
  | .sub l r => l.len == 0 && r.empty

theorem At_step {N b o k : Nat} {r : Lf} {w : World} (h : r.At w N b (o + k * 4 + 4)) : r.At w N b (o + (k + 1) * 4) := by
  rw [show o + (k + 1) * 4 = o + k * 4 + 4 by omega]; exact h

set_option maxHeartbeats 1600000 in
theorem isEmpty_any (s : Ls) (p : Option Addr) (cap N : Nat) (w : World) (h : s.In w N p) :
    Calls Try.prog 76 #[.slice p s.len cap] w fun e w' => e = .returned (.bool s.empty) ∧ w = w' := by
  rcases h with ⟨hm, h0 | ⟨b, o, rfl, hb, ha⟩⟩
  · go_enter Try.func76, Try.ntmps76
    go_wp2_with fail
    go_loopw [7] (fun i wr => i = .int .i64 0 ∧ wr = w) (fun i _ => 0)
    case atStart => exact ⟨rfl, rfl⟩
    case round =>
      obtain ⟨rfl, rfl⟩ := hrel
      have hge : ¬ 0 < s.len := by omega
      go_wp2_with fail
      go_ret
      exact ⟨ret_bool (by cases s with | nil => rfl | sub l r => simp [Ls.len] at h0), rfl⟩
  · go_enter Try.func76, Try.ntmps76
    go_wp2_with fail
    go_loopw [7] (fun i wr => ∃ (k : Nat) (r : Ls), i = .int .i64 k ∧ k + r.len = s.len ∧ r.At w N b (o + k) ∧ s.empty = r.empty ∧ wr = w)
      (fun i _ => s.len - (intOf i).toNat)
    case atStart => exact ⟨0, s, rfl, by omega, ha, rfl, rfl⟩
    case round =>
      obtain ⟨k, r, rfl, hk, hr, he, rfl⟩ := hrel
      have E := Lib.hid he
      clear he
      cases r with
      | nil =>
        simp only [Ls.len] at hk
        have hge : ¬ k < s.len := by omega
        go_wp2_with fail
        go_ret
        exact ⟨ret_bool E.out.symm, rfl⟩
      | sub l r =>
        obtain ⟨⟨q, c, hq, hl⟩, hr⟩ := hr
        simp only [Ls.len] at hk
        have hlt : k < s.len := by omega
        go_wp2_with fail
        · go_ret
          exact ⟨ret_bool (by rw [E.out]; simp [Ls.empty]; omega), rfl⟩
        · go_roundw
          case rel =>
            have h0 : l.len = 0 := by omega
            exact ⟨k + 1, r, by go_num, by omega, hr, by rw [E.out]; simp [Ls.empty, h0], trivial⟩
          case measure => simp [intOf]; omega

def Lf.asks : Lf → Bool
  | .nil => true
  | .node k _ t s r => (k == 1 || (k == 2 && (t || (r.len == 0 && s.empty)))) && r.asks

def fieldsOk (k : Int) (ni : Nat) (t : Bool) (ns : Nat) : Bool :=
  if k = 3 then ni == 0 && !t && ns == 1
  else if k = 5 then !t && ns == 1
  else if k = 2 then ns == 1
  else if k = 1 then ns == 0 && !t
  else if k = 4 then ni == 0 && !t
  else false

set_option maxHeartbeats 1600000 in
theorem hasFields_any (k : Int) (p q : Option Addr) (ni c : Nat) (t : Bool) (ns d : Nat) (b o : Nat) (w : World)
    (h0 : w.cell? ⟨b, o, none⟩ = some (.int .i64 k)) (h1 : w.cell? ⟨b, o + 1, none⟩ = some (.slice p ni c))
    (h2 : w.cell? ⟨b, o + 2, none⟩ = some (.bool t)) (h3 : w.cell? ⟨b, o + 3, none⟩ = some (.slice q ns d)) :
    Calls Try.prog 71 #[.pointer (some ⟨b, o, none⟩)] w fun e w' => e = .returned (.bool (fieldsOk k ni t ns)) ∧ w = w' := by
  go_enter Try.func71, Try.ntmps71
  go_wp2_with fail
  all_goals go_ret
  all_goals refine ⟨ret_bool ?_, rfl⟩
  all_goals (apply bool_of; simp_all [fieldsOk]; try omega)

set_option maxHeartbeats 1600000 in
theorem asks_any (l : Lf) (p : Option Addr) (cap N : Nat) (w : World) (h : l.In w N p) :
    Calls Try.prog 72 #[.slice p l.len cap] w fun e w' => e = .returned (.bool l.asks) ∧ w = w' := by
  rcases h with ⟨hm, h0 | ⟨b, o, rfl, hb, ha⟩⟩
  · go_enter Try.func72, Try.ntmps72
    go_wp2_with fail
    go_loopw [6] (fun i wr => i = .int .i64 0 ∧ wr = w) (fun i _ => 0)
    case atStart => exact ⟨rfl, rfl⟩
    case round =>
      obtain ⟨rfl, rfl⟩ := hrel
      have hge : ¬ 0 < l.len := by omega
      go_wp2_with fail
      go_ret
      exact ⟨ret_bool (by cases l with | nil => rfl | node => simp [Lf.len] at h0), rfl⟩
  · go_enter Try.func72, Try.ntmps72
    go_wp2_with fail
    go_loopw [6] (fun i wr => ∃ (k : Nat) (r : Lf), i = .int .i64 k ∧ k + r.len = l.len ∧ r.At w N b (o + k * 4) ∧ l.asks = r.asks ∧ wr = w)
      (fun i _ => l.len - (intOf i).toNat)
    case atStart => exact ⟨0, l, rfl, by omega, by rw [Nat.zero_mul]; exact ha, rfl, rfl⟩
    case round =>
      obtain ⟨k, r, rfl, hk, hr, he, rfl⟩ := hrel
      have E := Lib.hid he
      clear he
      cases r with
      | nil =>
        simp only [Lf.len] at hk
        have hge : ¬ k < l.len := by omega
        go_wp2_with fail
        go_ret
        exact ⟨ret_bool E.out.symm, rfl⟩
      | node kd is t s r =>
        obtain ⟨g0, ⟨q, c, g1, s1⟩, g2, ⟨q3, d, g3, s3⟩, hr⟩ := hr
        have H3 := Lib.hid s3
        clear s3 s1
        simp only [Lf.len] at hk
        have hlt : k < l.len := by omega
        go_wp2_with (go_at_call 76; refine (isEmpty_any s q3 d N _ H3.out).mono ?_; rintro e w' ⟨rfl, rfl⟩)
        all_goals first
          | (go_ret; refine ⟨ret_bool ?_, rfl⟩; rw [E.out]; apply bool_of; simp_all [Lf.asks] <;> first | omega | (intro hz hs; simp_all; omega))
          | (go_roundw
             case rel => refine ⟨k + 1, r, by go_num, by omega, At_step hr, ?_, trivial⟩; rw [E.out]; apply bool_of; (try have hz : r.len = 0 := by omega); simp_all [Lf.asks]
             case measure => simp [intOf]; omega)
end Go.Proofs.Ytdigkdfkaikagaa
