/- Find. -/
import Derived.Test.YtnghehcjklkoeaaJ1
namespace Go.Proofs.Ytnghehcjklkoeaa
open Go.RowKit

theorem set4 {w : World} {g : Nat} {a b c d' : Value} {t : TypeId} {fz : Nat × Nat} (h : w.heap[g]? = some (.cells #[a, b, c, d'] t fz)) (v0 v1 v2 v3 : Value) :
    ((((w.setCell ⟨g, 0, none⟩ v0).setCell ⟨g, 1, none⟩ v1).setCell ⟨g, 2, none⟩ v2).setCell ⟨g, 3, none⟩ v3).heap[g]? = some (.cells #[v0, v1, v2, v3] t fz) := by
  have h0 : (w.setCell ⟨g, 0, none⟩ v0).heap[g]? = some (.cells #[v0, b, c, d'] t fz) := by rw [setCell_eq_setRow w g 0 _ t fz _ h]; exact setRow_heap w g _ _ t fz h
  have h1 : ((w.setCell ⟨g, 0, none⟩ v0).setCell ⟨g, 1, none⟩ v1).heap[g]? = some (.cells #[v0, v1, c, d'] t fz) := by rw [setCell_eq_setRow _ g 1 _ t fz _ h0]; exact setRow_heap _ g _ _ t fz h0
  have h2 : (((w.setCell ⟨g, 0, none⟩ v0).setCell ⟨g, 1, none⟩ v1).setCell ⟨g, 2, none⟩ v2).heap[g]? = some (.cells #[v0, v1, v2, d'] t fz) := by rw [setCell_eq_setRow _ g 2 _ t fz _ h1]; exact setRow_heap _ g _ _ t fz h1
  rw [setCell_eq_setRow _ g 3 _ t fz _ h2]; exact setRow_heap _ g _ _ t fz h2
theorem below_set4 {B : Nat} {a w : World} (h : Below B a w) {g : Nat} (hg : B ≤ g) (v0 v1 v2 v3 : Value) : Below B a ((((w.setCell ⟨g, 0, none⟩ v0).setCell ⟨g, 1, none⟩ v1).setCell ⟨g, 2, none⟩ v2).setCell ⟨g, 3, none⟩ v3) :=
  (((h.setCell (p := ⟨g, 0, none⟩) hg v0).setCell (p := ⟨g, 1, none⟩) hg v1).setCell (p := ⟨g, 2, none⟩) hg v2).setCell (p := ⟨g, 3, none⟩) hg v3
def rgNamed (nm : List UInt8) (v : Rgn) : Bool := v.name == nm
/-- what a name is in a function -/
def found (x : Prg) (f : Fnc) (nm : List UInt8) : Vr × Bool × Bool :=
  match (f.params ++ f.vars).find? (named nm) with
  | some v => (v, true, false)
  | none => match x.regs.find? (rgNamed nm) with
    | some r => (⟨r.name, 3, r.size, r.secret⟩, true, true)
    | none => (⟨[], 0, 0, false⟩, false, false)
theorem found_var {x : Prg} {f : Fnc} {nm : List UInt8} {d r : List Vr} {v : Vr} (h : f.params ++ f.vars = d ++ v :: r) (hv : named nm v = true) (hd : d.all (fun y => !named nm y) = true) : found x f nm = (v, true, false) := by
  have : (f.params ++ f.vars).find? (named nm) = some v := by
    rw [h, List.find?_append]
    have h1 : d.find? (named nm) = none := List.find?_eq_none.2 fun y hy => by have := List.all_eq_true.1 hd y hy; simpa using this
    rw [h1]; simp [hv]
  unfold found
  rw [this]
theorem found_rgn {x : Prg} {f : Fnc} {nm : List UInt8} {d r : List Rgn} {v : Rgn} (h0 : (f.params ++ f.vars).all (fun y => !named nm y) = true) (h : x.regs = d ++ v :: r) (hv : rgNamed nm v = true) (hd : d.all (fun y => !rgNamed nm y) = true) : found x f nm = (⟨v.name, 3, v.size, v.secret⟩, true, true) := by
  have h1 : (f.params ++ f.vars).find? (named nm) = none := List.find?_eq_none.2 fun y hy => by have := List.all_eq_true.1 h0 y hy; simpa using this
  have h2 : x.regs.find? (rgNamed nm) = some v := by
    rw [h, List.find?_append]
    have h1 : d.find? (rgNamed nm) = none := List.find?_eq_none.2 fun y hy => by have := List.all_eq_true.1 hd y hy; simpa using this
    rw [h1]; simp [hv]
  unfold found
  rw [h1, h2]
theorem found_none {x : Prg} {f : Fnc} {nm : List UInt8} (h0 : (f.params ++ f.vars).all (fun y => !named nm y) = true) (h : x.regs.all (fun y => !rgNamed nm y) = true) : found x f nm = (⟨[], 0, 0, false⟩, false, false) := by
  have h1 : (f.params ++ f.vars).find? (named nm) = none := List.find?_eq_none.2 fun y hy => by have := List.all_eq_true.1 h0 y hy; simpa using this
  have h2 : x.regs.find? (rgNamed nm) = none := List.find?_eq_none.2 fun y hy => by have := List.all_eq_true.1 h y hy; simpa using this
  unfold found
  rw [h1, h2]
def foundV (r : Vr × Bool × Bool) : Value := .tuple #[vrV r.1, .bool r.2.1, .bool r.2.2]
theorem all_snoc {α : Type} {f : α → Bool} {d : List α} {y : α} (h : d.all (fun y => !f y) = true) (hy : f y = false) : (d ++ [y]).all (fun y => !f y) = true := by rw [List.all_append, h]; simp [hy]
set_option maxRecDepth 100000 in
set_option maxHeartbeats 12800000 in
theorem find_any (x : Prg) (s : PrgP) (i : Nat) (fn : Fnc) (nm : List UInt8) (N : Nat) (w : World) (h : x.Ok w N s.p s.q) (hN : N ≤ w.heap.size) (hi : x.fns[i]? = some fn) :
    Calls Try.prog 112 #[x.v s, .int .i64 (i : Int), .string (str nm)] w fun z w' => z = .returned (foundV (found x fn nm)) ∧ Below w.heap.size w w' := by
  obtain ⟨p, q, c, d⟩ := s
  have hil : i < x.fns.length := (List.getElem?_eq_some_iff.1 hi).1
  obtain ⟨W0, hW0, k0, kr, hB0, hz0⟩ := two_alloc w (.cells #[.slice p x.regs.length c, .slice q x.fns.length d] 25) (.cells #[.string ⟨#[]⟩, .int .i64 0, .int .i64 0, .bool false] 52)
  obtain ⟨b, o, hp, hb, ha⟩ := Row.start h.1
  obtain ⟨b', o', hq, hb', ha'⟩ := Row.start h.2
  have hm := h.1.1
  have hm' := h.2.1
  have HA := Lib.hid (And.intro ha hb)
  obtain ⟨⟨pp, pv, pr, pb, cp, cv, cr, cb⟩, e0, e1, e2, e3, e4, hok⟩ := Fnc.At.all (Row.get ha' hi)
  have hbw : b' < w.heap.size := by omega
  have g1 := (hB0.cell (p := ⟨b', o' + i * 5 + 1, none⟩) hbw).trans e1
  have g2 := (hB0.cell (p := ⟨b', o' + i * 5 + 2, none⟩) hbw).trans e2
  have HPB := Lib.hid (Row.start hok.1)
  have HVB := Lib.hid (Row.start hok.2.1)
  have hmp := hok.1.1
  have hmv := hok.2.1.1
  have HB0 := Lib.hid (And.intro hB0 (show w.heap.size ≤ W0.heap.size by omega))
  have HW0 := Lib.hid hW0
  have HK := Lib.hid (And.intro k0 kr)
  have c0 : W0.cell? ⟨w.heap.size, 0, none⟩ = some (.slice p x.regs.length c) := cell_blk k0 rfl
  have c1 : W0.cell? ⟨w.heap.size, 1, none⟩ = some (.slice q x.fns.length d) := cell_blk k0 rfl
  have hlt0 : ¬ (i : Int) < 0 := by omega
  have hge0 : ¬ (x.fns.length : Int) ≤ (i : Int) := by omega
  have HEnd := Lib.hid (fun (W : World) (hB : Below W0.heap.size W0 W) (v0 v1 v2 v3 : Value) => show ((((W.setCell ⟨w.heap.size + 1, 0, none⟩ v0).setCell ⟨w.heap.size + 1, 1, none⟩ v1).setCell ⟨w.heap.size + 1, 2, none⟩ v2).setCell ⟨w.heap.size + 1, 3, none⟩ v3).heap[w.heap.size + 1]? = some (.cells #[v0, v1, v2, v3] 52 (0, 0)) ∧ Below w.heap.size w ((((W.setCell ⟨w.heap.size + 1, 0, none⟩ v0).setCell ⟨w.heap.size + 1, 1, none⟩ v1).setCell ⟨w.heap.size + 1, 2, none⟩ v2).setCell ⟨w.heap.size + 1, 3, none⟩ v3) from
    ⟨set4 ((hB.block _ (lt_blk kr)).trans kr) _ _ _ _, below_set4 (hB0.trans (hB.mono (by omega))) (Nat.le_succ _) _ _ _ _⟩)
  have HZ := Lib.hid (fun (W : World) (hB : Below W0.heap.size W0 W) => show W.heap[w.heap.size + 1]? = some (.cells #[.string ⟨#[]⟩, .int .i64 0, .int .i64 0, .bool false] 52 (0, 0)) from (hB.block _ (lt_blk kr)).trans kr)
  have HCR := Lib.hid (fun (W : World) (hB : Below W0.heap.size W0 W) => show W.cell? ⟨w.heap.size, 0, none⟩ = some (.slice p x.regs.length c) from cell_blk ((hB.block _ (lt_blk k0)).trans k0) rfl)
  unfold Prg.v foundV vrV
  clear hW0 k0 kr hB0 h hb hb' ha ha' e0 e1 e2 e3 e4 hok hi
  have hqs : q = some ⟨b', o', none⟩ := by
    rcases hq with h0 | h0
    · omega
    · exact h0
  subst hqs
  clear hq
  go_enter Try.func112, Try.ntmps112
  go_upto_region 1 with fail
  rw [HW0.out]
  go_wp2_with fail
  go_quiet (fail)
  go_wp2_with fail
  have HBz := Lib.hid (below_drewN (Below.refl W0.heap.size W0) nq)
  generalize W0.drewN nq = wz at HBz ⊢
  clear c0 c1 g1 g2
  go_loopw [38] (fun i wr => ∃ (k3 : Nat), i = .int .i64 k3 ∧ k3 ≤ 2 ∧ Hid (Below W0.heap.size W0 wr) ∧ Hid ((1 ≤ k3 → fn.params.all (fun y => !named nm y) = true) ∧ (2 ≤ k3 → fn.vars.all (fun y => !named nm y) = true))) (fun i _ => 2 - (intOf i).toNat)
  case atStart => exact ⟨0, rfl, by omega, HBz, Lib.hid ⟨fun h => by omega, fun h => by omega⟩⟩
  case round =>
    obtain ⟨wl, rfl⟩ : ∃ wl : World, wl = wr := ⟨_, rfl⟩
    obtain ⟨k3, rfl, hk3, hB3, hp3⟩ := hrel
    rcases (show k3 = 0 ∨ k3 = 1 ∨ k3 = 2 by omega) with rfl | rfl | rfl
    · obtain ⟨b4, o4, hp4, hb4, ha4⟩ := HPB.out
      have HA4 := Lib.hid (And.intro ha4 hb4)
      clear ha4 hb4
      have hi0 := index_0
      have hi1 := index_1
      go_wp2_with fail
      clear hi0 hi1
      go_loopw [43] (fun i wr => ∃ (d r : List Vr), i = .int .i64 d.length ∧ d.length + r.length = fn.params.length ∧ Hid (fn.params = d ++ r) ∧ Hid (Row (Vr.At w) 4 r b4 (o4 + d.length * 4)) ∧ Hid (Below W0.heap.size W0 wr) ∧ Hid (d.all (fun y => !named nm y) = true)) (fun i _ => fn.params.length - (intOf i).toNat)
      case atStart => exact ⟨[], fn.params, rfl, by rw [List.length_nil]; omega, Lib.hid rfl, Lib.hid (by simpa using HA4.out.1), hB3, Lib.hid rfl⟩
      case round =>
        obtain ⟨d4, r4, rfl, hk4, hd4, hr4, hB4, hE4⟩ := hrel
        cases r4 with
        | nil =>
          simp only [List.length_nil] at hk4
          have hge4 : ¬ d4.length < fn.params.length := by omega
          have HE4 := Lib.hid (show fn.params.all (fun y => !named nm y) = true by rw [hd4.out, List.append_nil]; exact hE4.out)
          clear hE4
          go_wp2_with fail
          go_roundw
          case rel => exact ⟨1, by go_num, by omega, hB4, Lib.hid ⟨fun _ => HE4.out, fun h => by omega⟩⟩
          case measure => simp [intOf]
        | cons v r4 =>
          simp only [List.length_cons] at hk4
          have hlt4 : d4.length < fn.params.length := by omega
          rcases hp4 with h0 | rfl
          · omega
          have hbN : b4 < w.heap.size := by have := HA4.out.2; omega
          obtain ⟨hv, hr4'⟩ := hr4.out
          have hU := HB0.out.1.trans (hB4.out.mono HB0.out.2)
          obtain ⟨d0, d1, d2, d3⟩ := Vr.At.later hU v b4 _ hbN hv
          have HR4 := Lib.hid hr4'
          obtain ⟨Wa, hWa, ka, hBa, hza⟩ := one_alloc wr (.cells #[.string (str v.name), .int .i64 v.kind, .int .i64 v.size, .bool v.secret] 52)
          have HWa := Lib.hid hWa
          have hBW := hB4.out.trans (hBa.mono hB4.out.size)
          have HBa := Lib.hid hBW
          have a0 : Wa.cell? ⟨wr.heap.size, 0, none⟩ = some (.string (str v.name)) := cell_blk ka rfl
          have a1 : Wa.cell? ⟨wr.heap.size, 1, none⟩ = some (.int .i64 v.kind) := cell_blk ka rfl
          have a2 : Wa.cell? ⟨wr.heap.size, 2, none⟩ = some (.int .i64 v.size) := cell_blk ka rfl
          have a3 : Wa.cell? ⟨wr.heap.size, 3, none⟩ = some (.bool v.secret) := cell_blk ka rfl
          have e1 := str_eqb v.name nm
          have HN4 := Lib.hid (show (v.name == nm) = named nm v from rfl)
          have HR := Lib.hid (HEnd.out Wa hBW (.string (str v.name)) (.int .i64 v.kind) (.int .i64 v.size) (.bool v.secret))
          have hz := HZ.out Wa hBW
          have q0 := cell_blk hz (j := 0) rfl
          have q1 := cell_blk hz (j := 1) rfl
          have q2 := cell_blk hz (j := 2) rfl
          have q3 := cell_blk hz (j := 3) rfl
          have hfz : ∀ j, Wa.frozen? ⟨w.heap.size + 1, j, none⟩ = false := fun j => by simp [World.frozen?, hz]
          have f0 := hfz 0
          have f1 := hfz 1
          have f2 := hfz 2
          have f3 := hfz 3
          have hne1 : w.heap.size + 1 ≠ wr.heap.size := by have := lt_blk HK.out.2; have := hB4.out.size; omega
          clear hv hr4 hr4' hU hWa ka hBa hza hBW hz hfz
          go_upto_region 9 with fail
          rw [HWa.out]
          clear d0 d1 d2 d3 HWa
          generalize (v.name == nm) = t1 at e1 HN4
          cases t1 with
          | true =>
            have HF := Lib.hid (found_var (x := x) (f := fn) (nm := nm) (v := v) (d := d4) (r := r4 ++ fn.vars) (by rw [hd4.out]; simp) HN4.out.symm hE4.out)
            clear hE4
            go_wp2_with fail
            generalize (((Wa.setCell ⟨w.heap.size + 1, 0, none⟩ (.string (str v.name))).setCell ⟨w.heap.size + 1, 1, none⟩ (.int .i64 v.kind)).setCell ⟨w.heap.size + 1, 2, none⟩ (.int .i64 v.size)).setCell ⟨w.heap.size + 1, 3, none⟩ (.bool v.secret) = F at HR ⊢
            have y0 := cell_blk HR.out.1 (j := 0) rfl
            have y1 := cell_blk HR.out.1 (j := 1) rfl
            have y2 := cell_blk HR.out.1 (j := 2) rfl
            have y3 := cell_blk HR.out.1 (j := 3) rfl
            refine bodyPost_ret (v := .tuple #[.agg #[.string (str v.name), .int .i64 v.kind, .int .i64 v.size, .bool v.secret], .bool true, .bool false]) ?_ rfl ⟨by rw [HF.out]; first | done | rfl, HR.out.2⟩
            simp [results, Try.results112, go_sem, y0, y1, y2, y3]
          | false =>
            have HE5 := Lib.hid (all_snoc hE4.out HN4.out.symm)
            clear hE4 HR
            go_wp2_with fail
            go_roundw
            case rel => exact ⟨d4 ++ [v], r4, by rw [List.length_append]; go_num, by simp; omega, Lib.hid (by rw [hd4.out]; simp), Lib.hid (by rw [List.length_append, List.length_singleton, show o4 + (d4.length + 1) * 4 = o4 + d4.length * 4 + 4 by omega]; exact HR4.out), HBa, HE5⟩
            case measure => simp [intOf]; omega
    · obtain ⟨b4, o4, hp4, hb4, ha4⟩ := HVB.out
      have HA4 := Lib.hid (And.intro ha4 hb4)
      clear ha4 hb4
      have hi0 := index_0
      have hi1 := index_1
      go_wp2_with fail
      clear hi0 hi1
      go_loopw [43] (fun i wr => ∃ (d r : List Vr), i = .int .i64 d.length ∧ d.length + r.length = fn.vars.length ∧ Hid (fn.vars = d ++ r) ∧ Hid (Row (Vr.At w) 4 r b4 (o4 + d.length * 4)) ∧ Hid (Below W0.heap.size W0 wr) ∧ Hid (d.all (fun y => !named nm y) = true)) (fun i _ => fn.vars.length - (intOf i).toNat)
      case atStart => exact ⟨[], fn.vars, rfl, by rw [List.length_nil]; omega, Lib.hid rfl, Lib.hid (by simpa using HA4.out.1), hB3, Lib.hid rfl⟩
      case round =>
        obtain ⟨d4, r4, rfl, hk4, hd4, hr4, hB4, hE4⟩ := hrel
        cases r4 with
        | nil =>
          simp only [List.length_nil] at hk4
          have hge4 : ¬ d4.length < fn.vars.length := by omega
          have HE4 := Lib.hid (show fn.vars.all (fun y => !named nm y) = true by rw [hd4.out, List.append_nil]; exact hE4.out)
          clear hE4
          go_wp2_with fail
          go_roundw
          case rel => exact ⟨2, by go_num, by omega, hB4, Lib.hid ⟨fun _ => hp3.out.1 (by omega), fun _ => HE4.out⟩⟩
          case measure => simp [intOf]
        | cons v r4 =>
          simp only [List.length_cons] at hk4
          have hlt4 : d4.length < fn.vars.length := by omega
          rcases hp4 with h0 | rfl
          · omega
          have hbN : b4 < w.heap.size := by have := HA4.out.2; omega
          obtain ⟨hv, hr4'⟩ := hr4.out
          have hU := HB0.out.1.trans (hB4.out.mono HB0.out.2)
          obtain ⟨d0, d1, d2, d3⟩ := Vr.At.later hU v b4 _ hbN hv
          have HR4 := Lib.hid hr4'
          obtain ⟨Wa, hWa, ka, hBa, hza⟩ := one_alloc wr (.cells #[.string (str v.name), .int .i64 v.kind, .int .i64 v.size, .bool v.secret] 52)
          have HWa := Lib.hid hWa
          have hBW := hB4.out.trans (hBa.mono hB4.out.size)
          have HBa := Lib.hid hBW
          have a0 : Wa.cell? ⟨wr.heap.size, 0, none⟩ = some (.string (str v.name)) := cell_blk ka rfl
          have a1 : Wa.cell? ⟨wr.heap.size, 1, none⟩ = some (.int .i64 v.kind) := cell_blk ka rfl
          have a2 : Wa.cell? ⟨wr.heap.size, 2, none⟩ = some (.int .i64 v.size) := cell_blk ka rfl
          have a3 : Wa.cell? ⟨wr.heap.size, 3, none⟩ = some (.bool v.secret) := cell_blk ka rfl
          have e1 := str_eqb v.name nm
          have HN4 := Lib.hid (show (v.name == nm) = named nm v from rfl)
          have HR := Lib.hid (HEnd.out Wa hBW (.string (str v.name)) (.int .i64 v.kind) (.int .i64 v.size) (.bool v.secret))
          have hz := HZ.out Wa hBW
          have q0 := cell_blk hz (j := 0) rfl
          have q1 := cell_blk hz (j := 1) rfl
          have q2 := cell_blk hz (j := 2) rfl
          have q3 := cell_blk hz (j := 3) rfl
          have hfz : ∀ j, Wa.frozen? ⟨w.heap.size + 1, j, none⟩ = false := fun j => by simp [World.frozen?, hz]
          have f0 := hfz 0
          have f1 := hfz 1
          have f2 := hfz 2
          have f3 := hfz 3
          have hne1 : w.heap.size + 1 ≠ wr.heap.size := by have := lt_blk HK.out.2; have := hB4.out.size; omega
          clear hv hr4 hr4' hU hWa ka hBa hza hBW hz hfz
          go_upto_region 9 with fail
          rw [HWa.out]
          clear d0 d1 d2 d3 HWa
          generalize (v.name == nm) = t1 at e1 HN4
          cases t1 with
          | true =>
            have HF := Lib.hid (found_var (x := x) (f := fn) (nm := nm) (v := v) (d := fn.params ++ d4) (r := r4) (by rw [hd4.out]; simp) HN4.out.symm (by rw [List.all_append, hp3.out.1 (by omega), hE4.out]; rfl))
            clear hE4
            go_wp2_with fail
            generalize (((Wa.setCell ⟨w.heap.size + 1, 0, none⟩ (.string (str v.name))).setCell ⟨w.heap.size + 1, 1, none⟩ (.int .i64 v.kind)).setCell ⟨w.heap.size + 1, 2, none⟩ (.int .i64 v.size)).setCell ⟨w.heap.size + 1, 3, none⟩ (.bool v.secret) = F at HR ⊢
            have y0 := cell_blk HR.out.1 (j := 0) rfl
            have y1 := cell_blk HR.out.1 (j := 1) rfl
            have y2 := cell_blk HR.out.1 (j := 2) rfl
            have y3 := cell_blk HR.out.1 (j := 3) rfl
            refine bodyPost_ret (v := .tuple #[.agg #[.string (str v.name), .int .i64 v.kind, .int .i64 v.size, .bool v.secret], .bool true, .bool false]) ?_ rfl ⟨by rw [HF.out]; first | done | rfl, HR.out.2⟩
            simp [results, Try.results112, go_sem, y0, y1, y2, y3]
          | false =>
            have HE5 := Lib.hid (all_snoc hE4.out HN4.out.symm)
            clear hE4 HR
            go_wp2_with fail
            go_roundw
            case rel => exact ⟨d4 ++ [v], r4, by rw [List.length_append]; go_num, by simp; omega, Lib.hid (by rw [hd4.out]; simp), Lib.hid (by rw [List.length_append, List.length_singleton, show o4 + (d4.length + 1) * 4 = o4 + d4.length * 4 + 4 by omega]; exact HR4.out), HBa, HE5⟩
            case measure => simp [intOf]; omega
    · have HNone := Lib.hid (show (fn.params ++ fn.vars).all (fun y => !named nm y) = true by rw [List.all_append, hp3.out.1 (by omega), hp3.out.2 (by omega)]; rfl)
      have c0 := HCR.out _ hB3.out
      clear hp3
      go_wp2_with fail
      clear c0
      go_loopw [57] (fun i wr => ∃ (d r : List Rgn), i = .int .i64 d.length ∧ d.length + r.length = x.regs.length ∧ Hid (x.regs = d ++ r) ∧ Hid (Row (Rgn.At w) 4 r b (o + d.length * 4)) ∧ Hid (Below W0.heap.size W0 wr) ∧ Hid (d.all (fun y => !rgNamed nm y) = true)) (fun i _ => x.regs.length - (intOf i).toNat)
      case atStart => exact ⟨[], x.regs, rfl, by rw [List.length_nil]; omega, Lib.hid rfl, Lib.hid (by simpa using HA.out.1), hB3, Lib.hid rfl⟩
      case round =>
        obtain ⟨d4, r4, rfl, hk4, hd4, hr4, hB4, hE4⟩ := hrel
        cases r4 with
        | nil =>
          simp only [List.length_nil] at hk4
          have hge4 : ¬ d4.length < x.regs.length := by omega
          have HF := Lib.hid (found_none (x := x) (f := fn) (nm := nm) HNone.out (by rw [hd4.out, List.append_nil]; exact hE4.out))
          have HR := Lib.hid (HEnd.out wr hB4.out (.string ⟨#[]⟩) (.int .i64 0) (.int .i64 0) (.bool false))
          have hz := HZ.out wr hB4.out
          have q0 := cell_blk hz (j := 0) rfl
          have q1 := cell_blk hz (j := 1) rfl
          have q2 := cell_blk hz (j := 2) rfl
          have q3 := cell_blk hz (j := 3) rfl
          have hfz : ∀ j, wr.frozen? ⟨w.heap.size + 1, j, none⟩ = false := fun j => by simp [World.frozen?, hz]
          have f0 := hfz 0
          have f1 := hfz 1
          have f2 := hfz 2
          have f3 := hfz 3
          clear hE4 hz hfz
          go_wp2_with fail
          generalize (((wr.setCell ⟨w.heap.size + 1, 0, none⟩ (.string ⟨#[]⟩)).setCell ⟨w.heap.size + 1, 1, none⟩ (.int .i64 0)).setCell ⟨w.heap.size + 1, 2, none⟩ (.int .i64 0)).setCell ⟨w.heap.size + 1, 3, none⟩ (.bool false) = F at HR ⊢
          have y0 := cell_blk HR.out.1 (j := 0) rfl
          have y1 := cell_blk HR.out.1 (j := 1) rfl
          have y2 := cell_blk HR.out.1 (j := 2) rfl
          have y3 := cell_blk HR.out.1 (j := 3) rfl
          refine bodyPost_ret (v := .tuple #[.agg #[.string ⟨#[]⟩, .int .i64 0, .int .i64 0, .bool false], .bool false, .bool false]) ?_ rfl ⟨by rw [HF.out]; first | done | rfl, HR.out.2⟩
          simp [results, Try.results112, go_sem, y0, y1, y2, y3]
        | cons v r4 =>
          simp only [List.length_cons] at hk4
          have hlt4 : d4.length < x.regs.length := by omega
          rcases hp with h0 | rfl
          · omega
          have hbN : b < w.heap.size := by have := HA.out.2; omega
          obtain ⟨hv, hr4'⟩ := hr4.out
          have hU := HB0.out.1.trans (hB4.out.mono HB0.out.2)
          obtain ⟨d0, d1, d2, d3⟩ := Rgn.At.later hU v b _ hbN hv
          have HR4 := Lib.hid hr4'
          obtain ⟨Wa, hWa, ka, hBa, hza⟩ := one_alloc wr (.cells #[.string (str v.name), .int .i64 v.addr, .int .i64 v.size, .bool v.secret] 58)
          have HWa := Lib.hid hWa
          have hBW := hB4.out.trans (hBa.mono hB4.out.size)
          have HBa := Lib.hid hBW
          have a0 : Wa.cell? ⟨wr.heap.size, 0, none⟩ = some (.string (str v.name)) := cell_blk ka rfl
          have a1 : Wa.cell? ⟨wr.heap.size, 1, none⟩ = some (.int .i64 v.addr) := cell_blk ka rfl
          have a2 : Wa.cell? ⟨wr.heap.size, 2, none⟩ = some (.int .i64 v.size) := cell_blk ka rfl
          have a3 : Wa.cell? ⟨wr.heap.size, 3, none⟩ = some (.bool v.secret) := cell_blk ka rfl
          have e1 := str_eqb v.name nm
          have HN4 := Lib.hid (show (v.name == nm) = rgNamed nm v from rfl)
          have HR := Lib.hid (HEnd.out Wa hBW (.string (str v.name)) (.int .i64 3) (.int .i64 v.size) (.bool v.secret))
          have hz := HZ.out Wa hBW
          have q0 := cell_blk hz (j := 0) rfl
          have q1 := cell_blk hz (j := 1) rfl
          have q2 := cell_blk hz (j := 2) rfl
          have q3 := cell_blk hz (j := 3) rfl
          have hfz : ∀ j, Wa.frozen? ⟨w.heap.size + 1, j, none⟩ = false := fun j => by simp [World.frozen?, hz]
          have f0 := hfz 0
          have f1 := hfz 1
          have f2 := hfz 2
          have f3 := hfz 3
          clear hv hr4 hr4' hU hWa ka hBa hza hBW hz hfz
          go_upto_region 16 with fail
          rw [HWa.out]
          clear d0 d1 d2 d3 HWa
          generalize (v.name == nm) = t1 at e1 HN4
          cases t1 with
          | true =>
            have HF := Lib.hid (found_rgn (x := x) (f := fn) (nm := nm) (v := v) HNone.out hd4.out HN4.out.symm hE4.out)
            clear hE4
            go_wp2_with fail
            generalize (((Wa.setCell ⟨w.heap.size + 1, 0, none⟩ (.string (str v.name))).setCell ⟨w.heap.size + 1, 1, none⟩ (.int .i64 3)).setCell ⟨w.heap.size + 1, 2, none⟩ (.int .i64 v.size)).setCell ⟨w.heap.size + 1, 3, none⟩ (.bool v.secret) = F at HR ⊢
            have y0 := cell_blk HR.out.1 (j := 0) rfl
            have y1 := cell_blk HR.out.1 (j := 1) rfl
            have y2 := cell_blk HR.out.1 (j := 2) rfl
            have y3 := cell_blk HR.out.1 (j := 3) rfl
            refine bodyPost_ret (v := .tuple #[.agg #[.string (str v.name), .int .i64 3, .int .i64 v.size, .bool v.secret], .bool true, .bool true]) ?_ rfl ⟨by rw [HF.out]; first | done | rfl, HR.out.2⟩
            simp [results, Try.results112, go_sem, y0, y1, y2, y3]
          | false =>
            have HE5 := Lib.hid (all_snoc hE4.out HN4.out.symm)
            clear hE4 HR
            go_wp2_with fail
            go_roundw
            case rel => exact ⟨d4 ++ [v], r4, by rw [List.length_append]; go_num, by simp; omega, Lib.hid (by rw [hd4.out]; simp), Lib.hid (by rw [List.length_append, List.length_singleton, show o + (d4.length + 1) * 4 = o + d4.length * 4 + 4 by omega]; exact HR4.out), HBa, HE5⟩
            case measure => simp [intOf]; omega
end Go.Proofs.Ytnghehcjklkoeaa
