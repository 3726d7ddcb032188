/- Picks: may they be, and the greatest item that they pick. -/
import Derived.Test.YtdigkdfkaikagaaT1
namespace Go.Proofs.Ytdigkdfkaikagaa
open Go.RowKit

def Pk.ok (p : Pk) : Bool := decide (1 ≤ p.kind) && decide (p.kind ≤ 4) && decide (0 ≤ p.item)
def picksOk (ls : List (List Pk)) : Bool := ls.all fun l => l.all Pk.ok

set_option maxHeartbeats 1600000 in
theorem arePicks_any (ls : List (List Pk)) (p : Option Addr) (cap N : Nat) (w : World) (h : Sl N p ls.length (Plines w N ls)) (hN : N ≤ w.heap.size) :
    Calls Try.prog 28 #[.slice p ls.length cap] w fun e w' => e = .returned (.bool (picksOk ls)) ∧ Below w.heap.size w w' := by
  have S0 := Lib.hid h
  have hm := h.1
  clear h
  go_enter Try.func28, Try.ntmps28
  go_wp2_with fail
  go_loopw [9] (fun i wr => ∃ (ds rs : List (List Pk)), i = .int .i64 ds.length ∧ ds.length + rs.length = ls.length ∧ Hid (ls = ds ++ rs) ∧ Hid (picksOk ls = picksOk rs) ∧ Hid (Below w.heap.size w wr))
    (fun i _ => ls.length - (intOf i).toNat)
  case atStart => exact ⟨[], ls, rfl, by simp, Lib.hid rfl, Lib.hid rfl, Lib.hid (Below.refl _ _)⟩
  case round =>
    obtain ⟨ds, rs, rfl, hj, hE, hP, hB⟩ := hrel
    cases rs with
    | nil =>
      simp only [List.length_nil] at hj
      have hge : ¬ ds.length < ls.length := by omega
      go_wp2_with fail
      go_ret
      exact ⟨ret_bool (by rw [hP.out]; rfl), hB.out⟩
    | cons x rs =>
      simp only [List.length_cons] at hj
      have hlt : ds.length < ls.length := by omega
      rcases S0.out.2 with h30 | ⟨b, o, rfl, hb, ha⟩
      · omega
      rw [hE.out] at ha
      obtain ⟨⟨q, c, g1, s1⟩, _⟩ := Plines.drop _ _ _ _ ha
      have f1 := (hB.out.cell (show b < w.heap.size by omega)).trans g1
      have S1 := Lib.hid s1
      have hm1 := s1.1
      clear ha s1 g1
      go_wp2_with fail
      have hP1 := Lib.hid (show picksOk ls = (x.all Pk.ok && picksOk rs) by rw [hP.out]; rfl)
      clear hP f1
      go_loopw [15] (fun i wr' => ∃ (us vs : List Pk), i = .int .i64 us.length ∧ us.length + vs.length = x.length ∧ Hid (x = us ++ vs) ∧ Hid (picksOk ls = (vs.all Pk.ok && picksOk rs)) ∧ Hid (Below w.heap.size w wr'))
        (fun i _ => x.length - (intOf i).toNat)
      case atStart => exact ⟨[], x, rfl, by simp, Lib.hid rfl, hP1, hB⟩
      case round =>
        clear hP1 hB
        obtain ⟨us, vs, rfl, hj2, hE2, hP2, hB⟩ := hrel
        cases vs with
        | nil =>
          simp only [List.length_nil] at hj2
          have hge : ¬ us.length < x.length := by omega
          go_wp2_with fail
          go_roundw
          case rel => exact ⟨ds ++ [x], rs, by rw [List.length_append]; go_num, by simp; omega, Lib.hid (by rw [hE.out]; simp), Lib.hid (by rw [hP2.out]; rfl), hB⟩
          case measure => simp [intOf]; omega
        | cons y vs =>
          simp only [List.length_cons] at hj2
          have hlt2 : us.length < x.length := by omega
          rcases S1.out.2 with h31 | ⟨b1, o1, rfl, hb1, ha1⟩
          · omega
          rw [hE2.out] at ha1
          obtain ⟨⟨c0, c1, c2, c3⟩, _⟩ := Picks.drop _ _ _ _ ha1
          have d0 := (hB.out.cell (show b1 < w.heap.size by omega)).trans c0
          have d1 := (hB.out.cell (show b1 < w.heap.size by omega)).trans c1
          have d2 := (hB.out.cell (show b1 < w.heap.size by omega)).trans c2
          have d3 := (hB.out.cell (show b1 < w.heap.size by omega)).trans c3
          clear ha1 c0 c1 c2 c3
          have hAl := Lib.hid (fun (o : Obj) => hB.out.alloc hB.out.size o)
          have hyk := Lib.hid (show y.ok = (decide (1 ≤ y.kind) && decide (y.kind ≤ 4) && decide (0 ≤ y.item)) from rfl)
          have hP3 := Lib.hid (show picksOk ls = (y.ok && vs.all Pk.ok && picksOk rs) by rw [hP2.out]; rfl)
          obtain ⟨kd, it, wd, st⟩ := y
          simp only at hyk
          go_wp2_with fail
          all_goals first
            | (go_ret; refine ⟨ret_bool ?_, hAl.out _⟩; rw [hP3.out, hyk.out]; apply bool_of; simp; omega)
            | (go_roundw
               case rel =>
                 refine ⟨us ++ [⟨kd, it, wd, st⟩], vs, by rw [List.length_append]; go_num, by simp; omega, Lib.hid (by rw [hE2.out]; simp), Lib.hid ?_, Lib.hid (hAl.out _)⟩
                 have h1 : decide (1 ≤ kd) = true := decide_eq_true (by omega)
                 have h2 : decide (kd ≤ 4) = true := decide_eq_true (by omega)
                 have h3 : decide (0 ≤ it) = true := decide_eq_true (by omega)
                 rw [hP3.out, hyk.out, h1, h2, h3]; rfl
               case measure => simp [intOf]; omega)
end Go.Proofs.Ytdigkdfkaikagaa
