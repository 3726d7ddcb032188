/- The greatest item that picks pick; the document's picks. -/
import Derived.Test.YtdigkdfkaikagaaT2
namespace Go.Proofs.Ytdigkdfkaikagaa
open Go.RowKit

def gItem (m : Int) (p : Pk) : Int := if p.kind = 1 ∨ p.kind = 3 then (if m < p.item then p.item else m) else m
def gLine (m : Int) (l : List Pk) : Int := l.foldl gItem m
def greatestL (ls : List (List Pk)) : Int := ls.foldl gLine (-1)

set_option maxHeartbeats 1600000 in
theorem greatest_any (ls : List (List Pk)) (p : Option Addr) (cap N : Nat) (w : World) (h : Sl N p ls.length (Plines w N ls)) (hN : N ≤ w.heap.size) :
    Calls Try.prog 68 #[.slice p ls.length cap] w fun e w' => e = .returned (.int .i64 (greatestL ls)) ∧ Below w.heap.size w w' := by
  have S0 := Lib.hid h
  have hm := h.1
  clear h
  go_enter Try.func68, Try.ntmps68
  go_wp2_with fail
  go_loopw [3, 10] (fun g i wr => ∃ (ds rs : List (List Pk)) (m : Int), g = .int .i64 m ∧ i = .int .i64 ds.length ∧ ds.length + rs.length = ls.length ∧ Hid (ls = ds ++ rs) ∧ Hid (greatestL ls = rs.foldl gLine m) ∧ Hid (Below w.heap.size w wr))
    (fun _ i _ => ls.length - (intOf i).toNat)
  case atStart => exact ⟨[], ls, -1, rfl, rfl, by simp, Lib.hid rfl, Lib.hid rfl, Lib.hid (Below.refl _ _)⟩
  case round =>
    obtain ⟨ds, rs, m, rfl, rfl, hj, hE, hP, hB⟩ := hrel
    cases rs with
    | nil =>
      simp only [List.length_nil] at hj
      have hge : ¬ ds.length < ls.length := by omega
      go_wp2_with fail
      go_ret
      exact ⟨ret_int (by rw [hP.out]; rfl), hB.out⟩
    | cons x rs =>
      simp only [List.length_cons] at hj
      have hlt : ds.length < ls.length := by omega
      rcases S0.out.2 with h30 | ⟨b, o, rfl, hb, ha⟩
      · omega
      rw [hE.out] at ha
      obtain ⟨⟨q, c, g1, s1⟩, _⟩ := Plines.drop _ _ _ _ ha
      have f1 := (hB.out.cell (show b < w.heap.size by omega)).trans g1
      have S1 := Lib.hid s1
      have hm1 := s1.1
      clear ha s1 g1
      go_wp2_with fail
      have hP1 := Lib.hid (show greatestL ls = rs.foldl gLine (x.foldl gItem m) by rw [hP.out]; rfl)
      clear hP f1
      go_loopw [3, 16] (fun g i wr' => ∃ (us vs : List Pk) (m2 : Int), g = .int .i64 m2 ∧ i = .int .i64 us.length ∧ us.length + vs.length = x.length ∧ Hid (x = us ++ vs) ∧ Hid (greatestL ls = rs.foldl gLine (vs.foldl gItem m2)) ∧ Hid (Below w.heap.size w wr'))
        (fun _ i _ => x.length - (intOf i).toNat)
      case atStart => exact ⟨[], x, m, rfl, rfl, by simp, Lib.hid rfl, hP1, hB⟩
      case round =>
        clear hP1 hB
        obtain ⟨us, vs, m2, rfl, rfl, hj2, hE2, hP2, hB⟩ := hrel
        cases vs with
        | nil =>
          simp only [List.length_nil] at hj2
          have hge : ¬ us.length < x.length := by omega
          go_wp2_with fail
          go_roundw
          case rel => exact ⟨ds ++ [x], rs, m2, rfl, by rw [List.length_append]; go_num, by simp; omega, Lib.hid (by rw [hE.out]; simp), Lib.hid (by rw [hP2.out]; rfl), hB⟩
          case measure => simp [intOf]; omega
        | cons y vs =>
          simp only [List.length_cons] at hj2
          have hlt2 : us.length < x.length := by omega
          rcases S1.out.2 with h31 | ⟨b1, o1, rfl, hb1, ha1⟩
          · omega
          rw [hE2.out] at ha1
          obtain ⟨⟨c0, c1, c2, c3⟩, _⟩ := Picks.drop _ _ _ _ ha1
          have d0 := (hB.out.cell (show b1 < w.heap.size by omega)).trans c0
          have d1 := (hB.out.cell (show b1 < w.heap.size by omega)).trans c1
          have d2 := (hB.out.cell (show b1 < w.heap.size by omega)).trans c2
          have d3 := (hB.out.cell (show b1 < w.heap.size by omega)).trans c3
          clear ha1 c0 c1 c2 c3
          have hAl := Lib.hid (fun (o : Obj) => hB.out.alloc hB.out.size o)
          have hP3 := Lib.hid (show greatestL ls = rs.foldl gLine (vs.foldl gItem (gItem m2 y)) by rw [hP2.out]; rfl)
          obtain ⟨kd, it, wd, st⟩ := y
          go_wp2_with fail
          · go_roundw
            case rel =>
              refine ⟨us ++ [⟨kd, it, wd, st⟩], vs, _, rfl, by rw [List.length_append]; go_num, by simp; omega, Lib.hid (by rw [hE2.out]; simp), Lib.hid ?_, Lib.hid (by first | exact hB.out | exact hAl.out _)⟩
              rw [hP3.out]; simp only [gItem]
              rw [if_pos (Or.inl (by assumption))]
            case measure => simp [intOf]; omega
          · go_roundw
            case rel =>
              refine ⟨us ++ [⟨kd, it, wd, st⟩], vs, _, rfl, by rw [List.length_append]; go_num, by simp; omega, Lib.hid (by rw [hE2.out]; simp), Lib.hid ?_, Lib.hid (by first | exact hB.out | exact hAl.out _)⟩
              rw [hP3.out]; simp only [gItem]
              have h : (kd == 1) = true ∨ (kd == 3) = true := by assumption
              rw [if_pos (by simpa using h)]
            case measure => simp [intOf]; omega
          · go_roundw
            case rel =>
              refine ⟨us ++ [⟨kd, it, wd, st⟩], vs, _, rfl, by rw [List.length_append]; go_num, by simp; omega, Lib.hid (by rw [hE2.out]; simp), Lib.hid ?_, Lib.hid (by first | exact hB.out | exact hAl.out _)⟩
              rw [hP3.out]; simp only [gItem]
              have h : (kd == 1) = false ∧ (kd == 3) = false := by assumption
              rw [if_neg (by simpa using h)]
            case measure => simp [intOf]; omega

def Pk.fits (items : Bool) (p : Pk) : Bool := p.ok && (items || !(p.kind == 1 || p.kind == 3))
def refPicks (items : Bool) (ls : List (List Pk)) : Bool := ls.all fun l => l.all (Pk.fits items)

set_option maxHeartbeats 1600000 in
theorem refPicks_true (ls : List (List Pk)) (p : Option Addr) (cap N : Nat) (w : World) (h : Sl N p ls.length (Plines w N ls)) (hN : N ≤ w.heap.size) :
    Calls Try.prog 29 #[.slice p ls.length cap, .bool true] w fun e w' => e = .returned (.bool (refPicks true ls)) ∧ Below w.heap.size w w' := by
  have S0 := Lib.hid h
  have hm := h.1
  clear h
  go_enter Try.func29, Try.ntmps29
  go_wp2_with fail
  go_loopw [5] (fun i wr => ∃ (ds rs : List (List Pk)), i = .int .i64 ds.length ∧ ds.length + rs.length = ls.length ∧ Hid (ls = ds ++ rs) ∧ Hid (refPicks true ls = refPicks true rs) ∧ Hid (Below w.heap.size w wr))
    (fun i _ => ls.length - (intOf i).toNat)
  case atStart => exact ⟨[], ls, rfl, by simp, Lib.hid rfl, Lib.hid rfl, Lib.hid (Below.refl _ _)⟩
  case round =>
    obtain ⟨ds, rs, rfl, hj, hE, hP, hB⟩ := hrel
    cases rs with
    | nil =>
      simp only [List.length_nil] at hj
      have hge : ¬ ds.length < ls.length := by omega
      go_wp2_with fail
      go_ret
      exact ⟨ret_bool (by rw [hP.out]; rfl), hB.out⟩
    | cons x rs =>
      simp only [List.length_cons] at hj
      have hlt : ds.length < ls.length := by omega
      rcases S0.out.2 with h30 | ⟨b, o, rfl, hb, ha⟩
      · omega
      rw [hE.out] at ha
      obtain ⟨⟨q, c, g1, s1⟩, _⟩ := Plines.drop _ _ _ _ ha
      have f1 := (hB.out.cell (show b < w.heap.size by omega)).trans g1
      have S1 := Lib.hid s1
      have hm1 := s1.1
      clear ha s1
      go_wp2_with fail
      have hP1 := Lib.hid (show refPicks true ls = (x.all (Pk.fits true) && refPicks true rs) by rw [hP.out]; rfl)
      clear hP
      go_loopw [6] (fun i wr' => ∃ (us vs : List Pk), i = .int .i64 us.length ∧ us.length + vs.length = x.length ∧ Hid (x = us ++ vs) ∧ Hid (refPicks true ls = (vs.all (Pk.fits true) && refPicks true rs)) ∧ Hid (Below w.heap.size w wr'))
        (fun i _ => x.length - (intOf i).toNat)
      case atStart => exact ⟨[], x, rfl, by simp, Lib.hid rfl, hP1, hB⟩
      case round =>
        clear hP1 hB f1
        obtain ⟨us, vs, rfl, hj2, hE2, hP2, hB⟩ := hrel
        have f1 := (hB.out.cell (show b < w.heap.size by omega)).trans g1
        cases vs with
        | nil =>
          simp only [List.length_nil] at hj2
          have hge : ¬ us.length < x.length := by omega
          go_wp2_with fail
          go_roundw
          case rel => exact ⟨ds ++ [x], rs, by rw [List.length_append]; go_num, by simp; omega, Lib.hid (by rw [hE.out]; simp), Lib.hid (by rw [hP2.out]; rfl), hB⟩
          case measure => simp [intOf]; omega
        | cons y vs =>
          simp only [List.length_cons] at hj2
          have hlt2 : us.length < x.length := by omega
          rcases S1.out.2 with h31 | ⟨b1, o1, rfl, hb1, ha1⟩
          · omega
          rw [hE2.out] at ha1
          obtain ⟨⟨c0, c1, c2, c3⟩, _⟩ := Picks.drop _ _ _ _ ha1
          have d0 := (hB.out.cell (show b1 < w.heap.size by omega)).trans c0
          have d1 := (hB.out.cell (show b1 < w.heap.size by omega)).trans c1
          have d2 := (hB.out.cell (show b1 < w.heap.size by omega)).trans c2
          have d3 := (hB.out.cell (show b1 < w.heap.size by omega)).trans c3
          clear ha1 c0 c1 c2 c3
          have hAl := Lib.hid (fun (o : Obj) => hB.out.alloc hB.out.size o)
          have hyk := Lib.hid (show y.fits true = (y.ok && (true || !(y.kind == 1 || y.kind == 3))) from rfl)
          have hP3 := Lib.hid (show refPicks true ls = (y.fits true && vs.all (Pk.fits true) && refPicks true rs) by rw [hP2.out]; rfl)
          obtain ⟨kd, it, wd, st⟩ := y
          simp only at hyk
          go_wp2_with fail
          all_goals first
            | (go_ret; refine ⟨ret_bool ?_, hAl.out _⟩; rw [hP3.out]; have e : Pk.fits true ⟨kd, it, wd, st⟩ = false := (by first | (simp_all [Pk.fits, Pk.ok]; done) | (simp_all [Pk.fits, Pk.ok]; omega)); rw [e]; rfl)
            | (go_roundw
               case rel =>
                 refine ⟨us ++ [⟨kd, it, wd, st⟩], vs, by rw [List.length_append]; go_num, by simp; omega, Lib.hid (by rw [hE2.out]; simp), Lib.hid ?_, Lib.hid (hAl.out _)⟩
                 have e : Pk.fits true ⟨kd, it, wd, st⟩ = true := (by first | (simp_all [Pk.fits, Pk.ok]; done) | (simp_all [Pk.fits, Pk.ok]; omega))
                 rw [hP3.out, e]; rfl
               case measure => simp [intOf]; omega)
set_option maxHeartbeats 1600000 in
theorem refPicks_false (ls : List (List Pk)) (p : Option Addr) (cap N : Nat) (w : World) (h : Sl N p ls.length (Plines w N ls)) (hN : N ≤ w.heap.size) :
    Calls Try.prog 29 #[.slice p ls.length cap, .bool false] w fun e w' => e = .returned (.bool (refPicks false ls)) ∧ Below w.heap.size w w' := by
  have S0 := Lib.hid h
  have hm := h.1
  clear h
  go_enter Try.func29, Try.ntmps29
  go_wp2_with fail
  go_loopw [5] (fun i wr => ∃ (ds rs : List (List Pk)), i = .int .i64 ds.length ∧ ds.length + rs.length = ls.length ∧ Hid (ls = ds ++ rs) ∧ Hid (refPicks false ls = refPicks false rs) ∧ Hid (Below w.heap.size w wr))
    (fun i _ => ls.length - (intOf i).toNat)
  case atStart => exact ⟨[], ls, rfl, by simp, Lib.hid rfl, Lib.hid rfl, Lib.hid (Below.refl _ _)⟩
  case round =>
    obtain ⟨ds, rs, rfl, hj, hE, hP, hB⟩ := hrel
    cases rs with
    | nil =>
      simp only [List.length_nil] at hj
      have hge : ¬ ds.length < ls.length := by omega
      go_wp2_with fail
      go_ret
      exact ⟨ret_bool (by rw [hP.out]; rfl), hB.out⟩
    | cons x rs =>
      simp only [List.length_cons] at hj
      have hlt : ds.length < ls.length := by omega
      rcases S0.out.2 with h30 | ⟨b, o, rfl, hb, ha⟩
      · omega
      rw [hE.out] at ha
      obtain ⟨⟨q, c, g1, s1⟩, _⟩ := Plines.drop _ _ _ _ ha
      have f1 := (hB.out.cell (show b < w.heap.size by omega)).trans g1
      have S1 := Lib.hid s1
      have hm1 := s1.1
      clear ha s1
      go_wp2_with fail
      have hP1 := Lib.hid (show refPicks false ls = (x.all (Pk.fits false) && refPicks false rs) by rw [hP.out]; rfl)
      clear hP
      go_loopw [6] (fun i wr' => ∃ (us vs : List Pk), i = .int .i64 us.length ∧ us.length + vs.length = x.length ∧ Hid (x = us ++ vs) ∧ Hid (refPicks false ls = (vs.all (Pk.fits false) && refPicks false rs)) ∧ Hid (Below w.heap.size w wr'))
        (fun i _ => x.length - (intOf i).toNat)
      case atStart => exact ⟨[], x, rfl, by simp, Lib.hid rfl, hP1, hB⟩
      case round =>
        clear hP1 hB f1
        obtain ⟨us, vs, rfl, hj2, hE2, hP2, hB⟩ := hrel
        have f1 := (hB.out.cell (show b < w.heap.size by omega)).trans g1
        cases vs with
        | nil =>
          simp only [List.length_nil] at hj2
          have hge : ¬ us.length < x.length := by omega
          go_wp2_with fail
          go_roundw
          case rel => exact ⟨ds ++ [x], rs, by rw [List.length_append]; go_num, by simp; omega, Lib.hid (by rw [hE.out]; simp), Lib.hid (by rw [hP2.out]; rfl), hB⟩
          case measure => simp [intOf]; omega
        | cons y vs =>
          simp only [List.length_cons] at hj2
          have hlt2 : us.length < x.length := by omega
          rcases S1.out.2 with h31 | ⟨b1, o1, rfl, hb1, ha1⟩
          · omega
          rw [hE2.out] at ha1
          obtain ⟨⟨c0, c1, c2, c3⟩, _⟩ := Picks.drop _ _ _ _ ha1
          have d0 := (hB.out.cell (show b1 < w.heap.size by omega)).trans c0
          have d1 := (hB.out.cell (show b1 < w.heap.size by omega)).trans c1
          have d2 := (hB.out.cell (show b1 < w.heap.size by omega)).trans c2
          have d3 := (hB.out.cell (show b1 < w.heap.size by omega)).trans c3
          clear ha1 c0 c1 c2 c3
          have hAl := Lib.hid (fun (o : Obj) => hB.out.alloc hB.out.size o)
          have hyk := Lib.hid (show y.fits false = (y.ok && (false || !(y.kind == 1 || y.kind == 3))) from rfl)
          have hP3 := Lib.hid (show refPicks false ls = (y.fits false && vs.all (Pk.fits false) && refPicks false rs) by rw [hP2.out]; rfl)
          obtain ⟨kd, it, wd, st⟩ := y
          simp only at hyk
          go_wp2_with fail
          all_goals first
            | (go_ret; refine ⟨ret_bool ?_, hAl.out _⟩; rw [hP3.out]; have e : Pk.fits false ⟨kd, it, wd, st⟩ = false := (by first | (simp_all [Pk.fits, Pk.ok]; done) | (simp_all [Pk.fits, Pk.ok]; omega)); rw [e]; rfl)
            | (go_roundw
               case rel =>
                 refine ⟨us ++ [⟨kd, it, wd, st⟩], vs, by rw [List.length_append]; go_num, by simp; omega, Lib.hid (by rw [hE2.out]; simp), Lib.hid ?_, Lib.hid (hAl.out _)⟩
                 have e : Pk.fits false ⟨kd, it, wd, st⟩ = true := (by first | (simp_all [Pk.fits, Pk.ok]; done) | (simp_all [Pk.fits, Pk.ok]; omega))
                 rw [hP3.out, e]; rfl
               case measure => simp [intOf]; omega)
end Go.Proofs.Ytdigkdfkaikagaa
