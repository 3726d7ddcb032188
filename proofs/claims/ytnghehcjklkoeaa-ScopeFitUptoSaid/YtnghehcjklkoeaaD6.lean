/- The document's: is a name in a list, is it a parameter's. -/
import Derived.Test.YtnghehcjklkoeaaD5
namespace Go.Proofs.Ytnghehcjklkoeaa
open Go.RowKit

theorem any_snoc {α : Type} {f : α → Bool} {d r : List α} {l : List α} (hl : l = d ++ r) (hd : d.all (fun y => !f y) = true) : l.any f = r.any f := by
  subst hl
  rw [List.any_append]
  have : d.any f = false := by
    rw [List.any_eq_false]
    intro x hx
    have := List.all_eq_true.1 hd x hx
    simpa using this
  rw [this, Bool.false_or]
set_option maxHeartbeats 3200000 in
theorem rhas_any (l : List (List UInt8)) (nm : List UInt8) (p : Option Addr) (c N : Nat) (w : World) (hl : RowIn N (StrAt w) 1 l p) :
    Calls Try.prog 53 #[.slice p l.length c, .string (str nm)] w fun z w' => z = .returned (.bool (l.any (fun y => y == nm))) ∧ w = w' := by
  obtain ⟨b, o, hp, hb, ha⟩ := Row.start hl
  have hm := hl.1
  have HA := Lib.hid ha
  clear hl ha hb
  go_enter Try.func53, Try.ntmps53
  go_wp2_with fail
  go_loopw [5] (fun i wr => ∃ (d r : List (List UInt8)), i = .int .i64 d.length ∧ d.length + r.length = l.length ∧ Hid (l = d ++ r) ∧ Hid (d.all (fun y => !(y == nm)) = true) ∧ w = wr) (fun i _ => l.length - (intOf i).toNat)
  case atStart => exact ⟨[], l, rfl, by rw [List.length_nil]; omega, Lib.hid rfl, Lib.hid rfl, rfl⟩
  case round =>
    obtain ⟨d, r, rfl, hk, hd, hE, rfl⟩ := hrel
    cases r with
    | nil =>
      simp only [List.length_nil] at hk
      have hge : ¬ d.length < l.length := by omega
      have HV := Lib.hid (show l.any (fun y => y == nm) = false by rw [any_snoc (f := fun y => y == nm) hd.out hE.out]; rfl)
      clear hE
      go_wp2_with fail
      go_ret
      exact ⟨ret_bool HV.out.symm, rfl⟩
    | cons y r =>
      simp only [List.length_cons] at hk
      have hlt : d.length < l.length := by omega
      rcases hp with h0 | rfl
      · omega
      have c0 := str_get HA.out hd.out
      have e1 := str_eqb y nm
      have HV := Lib.hid (show l.any (fun y => y == nm) = ((y == nm) || r.any (fun y => y == nm)) by rw [any_snoc (f := fun y => y == nm) hd.out hE.out]; rfl)
      have HS := Lib.hid (fun (h : (y == nm) = false) => all_snoc (f := fun y => y == nm) hE.out h)
      clear hE
      generalize (y == nm) = t1 at e1 HV HS
      cases t1 with
      | true =>
        have HV2 := Lib.hid (show l.any (fun y => y == nm) = true by rw [HV.out]; rfl)
        clear HV HS
        go_wp2_with fail
        go_ret
        exact ⟨ret_bool HV2.out.symm, rfl⟩
      | false =>
        have HE := Lib.hid (HS.out rfl)
        clear HV HS
        go_wp2_with fail
        go_roundw
        case rel => exact ⟨d ++ [y], r, by rw [List.length_append]; go_num, by simp; omega, Lib.hid (by rw [hd.out]; simp), HE, trivial⟩
        case measure => simp [intOf]; omega
set_option maxHeartbeats 3200000 in
theorem rparams_any (f : Fnc) (s : FncP) (nm : List UInt8) (N : Nat) (w : World) (h : f.Ok w N s) (hN : N ≤ w.heap.size) :
    Calls Try.prog 110 #[f.v s, .string (str nm)] w fun z w' => z = .returned (.bool (f.params.any (named nm))) ∧ Below w.heap.size w w' := by
  obtain ⟨pp, pv, pr, pb, cp, cv, cr, cb⟩ := s
  obtain ⟨w1, hw1, k0, hB1, hz⟩ := one_alloc w (.cells #[.string (str f.name), .slice pp f.params.length cp, .slice pv f.vars.length cv, .slice pr f.rets.length cr, .slice pb f.body.len cb] 55)
  have c1 : w1.cell? ⟨w.heap.size, 1, none⟩ = some (.slice pp f.params.length cp) := cell_blk k0 rfl
  obtain ⟨b, o, hp, hb, ha⟩ := Row.start (RowIn.imp h.1 (Nat.le_refl N) (Vr.At.later (hB1.mono hN)))
  have hm := h.1.1
  have HA := Lib.hid ha
  have HB1 := Lib.hid hB1
  unfold Fnc.v
  clear h ha hb k0 hB1 hz
  go_enter Try.func110, Try.ntmps110
  go_wp2_with fail
  go_loopw [5] (fun i wr => ∃ (d r : List Vr), i = .int .i64 d.length ∧ d.length + r.length = f.params.length ∧ Hid (f.params = d ++ r) ∧ Hid (d.all (fun y => !named nm y) = true) ∧ w1 = wr) (fun i _ => f.params.length - (intOf i).toNat)
  case atStart => exact ⟨[], f.params, rfl, by rw [List.length_nil]; omega, Lib.hid rfl, Lib.hid rfl, rfl⟩
  case round =>
    obtain ⟨d, r, rfl, hk, hd, hE, rfl⟩ := hrel
    cases r with
    | nil =>
      simp only [List.length_nil] at hk
      have hge : ¬ d.length < f.params.length := by omega
      have HV := Lib.hid (show f.params.any (named nm) = false by rw [any_snoc hd.out hE.out]; rfl)
      clear hE
      go_wp2_with fail
      go_ret
      exact ⟨ret_bool HV.out.symm, HB1.out⟩
    | cons y r =>
      simp only [List.length_cons] at hk
      have hlt : d.length < f.params.length := by omega
      rcases hp with h0 | rfl
      · omega
      have hrow := HA.out
      rw [hd.out] at hrow
      obtain ⟨d0, d1, d2, d3⟩ := (Row.drop _ _ _ hrow).1
      have e1 := str_eqb y.name nm
      have HV := Lib.hid (show f.params.any (named nm) = ((y.name == nm) || r.any (named nm)) by rw [any_snoc hd.out hE.out]; rfl)
      have HS := Lib.hid (fun (h : (y.name == nm) = false) => all_snoc (f := named nm) hE.out h)
      clear hE hrow
      generalize (y.name == nm) = t1 at e1 HV HS
      cases t1 with
      | true =>
        have HV2 := Lib.hid (show f.params.any (named nm) = true by rw [HV.out]; rfl)
        clear HV HS
        go_wp2_with fail
        go_ret
        exact ⟨ret_bool HV2.out.symm, HB1.out⟩
      | false =>
        have HE := Lib.hid (HS.out rfl)
        clear HV HS
        go_wp2_with fail
        go_roundw
        case rel => exact ⟨d ++ [y], r, by rw [List.length_append]; go_num, by simp; omega, Lib.hid (by rw [hd.out]; simp), HE, trivial⟩
        case measure => simp [intOf]; omega
end Go.Proofs.Ytnghehcjklkoeaa
