/- P7, P6 as one. -/
import Derived.Test.YtnghehcjklkoeaaM1
import Derived.Test.YtnghehcjklkoeaaP5
/- A function's value: its cells. -/
namespace Go.Proofs.Ytnghehcjklkoeaa
open Go.RowKit

def Fnc.valP (x : Fnc) (s : FncP) : Value := x.val s
def Fnc.OkP (w : World) (N : Nat) (x : Fnc) (s : FncP) : Prop := x.Ok w N s
theorem Fnc.OkP.later {w w' : World} {N M : Nat} {x : Fnc} {s : FncP} (h : Fnc.OkP w N x s) (hw : Below N w w') (hM : N ≤ M) : Fnc.OkP w' M x s := Fnc.Ok.later h hw hM
theorem Fnc.At.openP {w : World} {N : Nat} {x : Fnc} {b o : Nat} (h : x.At w N b o) : ∃ s : FncP, (∀ j v, (x.cells s)[j]? = some v → w.cell? ⟨b, o + j, none⟩ = some v) ∧ Fnc.OkP w N x s := h.open
theorem infoFnc : (Try.prog.info? 55).map (·.size) = some 5 := by kernel_rfl
theorem oneFnc (x : Fnc) (s : FncP) : (x.cells s).all (·.oneCell') = true := by simp [Fnc.cells, Value.oneCell']
end Go.Proofs.Ytnghehcjklkoeaa
/- Two functions, two programs are the same: the program's. -/
namespace Go.Proofs.Ytnghehcjklkoeaa
open Go.RowKit


set_option maxRecDepth 100000 in
set_option maxHeartbeats 3200000 in
theorem eqfFn (xs ys : List Fnc) (p p' : Option Addr) (ca cb N : Nat) (w : World) (h1 : RowIn N (Fnc.At w N) 5 xs p) (h2 : RowIn N (Fnc.At w N) 5 ys p') (hN : N ≤ w.heap.size)
    (hcb : ∀ y1 ∈ xs, ∀ y2 ∈ ys, ∀ (s1 s2 : FncP) (w1 : World), Below w.heap.size w w1 → Fnc.OkP w1 w1.heap.size y1 s1 → Fnc.OkP w1 w1.heap.size y2 s2 → Calls Try.prog 19 #[Fnc.valP y1 s1, Fnc.valP y2 s2] w1 fun e w' => e = .returned (.bool (eqB y1 y2)) ∧ Below w1.heap.size w1 w') :
    Calls Try.prog 18 #[.slice p xs.length ca, .slice p' ys.length cb, .func (Fn.func 19) #[] #[]] w fun e w' => e = .returned (.bool (eqB xs ys)) ∧ Below w.heap.size w w' := by
  have S1 := Lib.hid h1
  have S2 := Lib.hid h2
  have HCB := Lib.hid hcb
  have hm1 := h1.1
  have hm2 := h2.1
  clear h1 h2 hcb
  by_cases hl : xs.length = ys.length
  · have HL := Lib.hid hl
    have hl' : ((xs.length : Int) != (ys.length : Int)) = false := by simp [hl]
    clear hl
    go_enter Try.func18, Try.ntmps18
    go_wp2_with fail
    go_loopw [17] (fun i wr => ∃ (ds rs rs' : List Fnc), i = .int .i64 ds.length ∧ Hid (xs = ds ++ rs) ∧ Hid (ys = ds ++ rs') ∧ ds.length + rs.length = xs.length ∧ rs'.length = rs.length ∧ Hid (Below w.heap.size w wr)) (fun i _ => xs.length - (intOf i).toNat)
    case atStart => exact ⟨[], xs, ys, rfl, Lib.hid rfl, Lib.hid rfl, by simp, by have := HL.out; omega, Lib.hid (Below.refl _ _)⟩
    case round =>
      obtain ⟨ds, rs, rs', rfl, E1, E2, hd1, hd2, hB⟩ := hrel
      cases rs with
      | nil =>
        cases rs' with
        | cons _ _ => simp at hd2
        | nil =>
          simp only [List.length_nil] at hd1
          have hge : ¬ ds.length < xs.length := by omega
          have EQ := Lib.hid (eqB_true (show xs = ys by rw [E1.out, E2.out]))
          go_wp2_with fail
          go_ret
          exact ⟨ret_bool EQ.out, hB.out⟩
      | cons y1 rs =>
        cases rs' with
        | nil => simp at hd2
        | cons y2 rs' =>
          simp only [List.length_cons] at hd1 hd2
          have hlt1 : ds.length < xs.length := by omega
          have hlt2 : ds.length < ys.length := by have := HL.out; omega
          rcases S1.out.2 with h30 | ⟨b1, o1, rfl, hb1, ha1⟩
          · omega
          rcases S2.out.2 with h30 | ⟨b2, o2, rfl, hb2, ha2⟩
          · omega
          rw [E1.out] at ha1
          rw [E2.out] at ha2
          obtain ⟨s1, c1, ok1⟩ := Fnc.At.openP (Fnc.At.later ((hB.out).mono hN) (Nat.le_trans hN hB.out.size) y1 b1 _ hb1 (Row.drop _ _ _ ha1).1)
          obtain ⟨s2, c2, ok2⟩ := Fnc.At.openP (Fnc.At.later ((hB.out).mono hN) (Nat.le_trans hN hB.out.size) y2 b2 _ hb2 (Row.drop _ _ _ ha2).1)
          have HC := Lib.hid (fun (w1 : World) (hb : Below wr.heap.size wr w1) => HCB.out y1 (by rw [E1.out]; simp) y2 (by rw [E2.out]; simp) s1 s2 w1 (hB.out.trans (hb.mono hB.out.size)) (Fnc.OkP.later ok1 hb hb.size) (Fnc.OkP.later ok2 hb hb.size))
          have EQ := Lib.hid (show (eqB y1 y2 = true → y1 = y2) ∧ (eqB y1 y2 = false → ¬ xs = ys) from ⟨eqB_of_true, fun h e => by
              rw [E1.out, E2.out] at e
              have := List.append_cancel_left e
              injection this with e6 _
              exact eqB_of_false h e6⟩)
          obtain ⟨A1, hA1⟩ : ∃ A1, y1.cells s1 = A1 := ⟨_, rfl⟩
          obtain ⟨A2, hA2⟩ : ∃ A2, y2.cells s2 = A2 := ⟨_, rfl⟩
          have HZ1 := Lib.hid (show A1.size = 5 by rw [← hA1]; rfl)
          have HZ2 := Lib.hid (show A2.size = 5 by rw [← hA2]; rfl)
          have HO1 := Lib.hid (show A1.all (·.oneCell') = true by rw [← hA1]; exact oneFnc _ _)
          have HO2 := Lib.hid (show A2.all (·.oneCell') = true by rw [← hA2]; exact oneFnc _ _)
          have r1 : wr.rangeAt b1 (o1 + ds.length * 5) A1.toList := fun j v hv => c1 j v (by rw [hA1, ← Array.getElem?_toList]; exact hv)
          have r2 : wr.rangeAt b2 (o2 + ds.length * 5) A2.toList := fun j v hv => c2 j v (by rw [hA2, ← Array.getElem?_toList]; exact hv)
          have HB2 := Lib.hid (((Below.refl _ wr).alloc (Nat.le_refl _) (Obj.cells A1 55)).alloc (by simp) (Obj.cells A2 55))
          have F1 := Lib.hid r1
          have F2 := Lib.hid (range_later r2 (show b2 < wr.heap.size by have := hB.out.size; omega) ((Below.refl _ wr).alloc (Nat.le_refl _) (Obj.cells A1 55)))
          have F3 := Lib.hid (range_later (range_new wr A1 55) (show wr.heap.size < (wr.alloc (Obj.cells A1 55)).heap.size by simp) ((Below.refl _ _).alloc (Nat.le_refl _) (Obj.cells A2 55)))
          have F4 := Lib.hid (show ((wr.alloc (Obj.cells A1 55)).alloc (Obj.cells A2 55)).rangeAt (wr.heap.size + 1) 0 A2.toList by have := range_new (wr.alloc (Obj.cells A1 55)) A2 55; simpa using this)
          have HI1 := Lib.hid (infoFnc.trans (by rw [HZ1.out]) : (Try.prog.info? 55).map (·.size) = some A1.size)
          have HI2 := Lib.hid (infoFnc.trans (by rw [HZ2.out]) : (Try.prog.info? 55).map (·.size) = some A2.size)
          unfold Fnc.valP Fnc.val at HC
          rw [hA1, hA2] at HC
          clear c1 c2 ok1 ok2 ha1 ha2 r1 r2 hA1 hA2
          generalize eqB y1 y2 = v at HC EQ
          cases v with
          | true =>
            have hy := Lib.hid (EQ.out.1 rfl)
            clear EQ
            go_wp2_with (first | (refine wpl_load rfl 55 _ rfl b1 (o1 + ds.length * 5) rfl A1 _ F1.out Try.underlying55 rfl HI1.out ?_) | (refine wpl_load rfl 55 _ rfl b2 (o2 + ds.length * 5) rfl A2 _ F2.out Try.underlying55 rfl HI2.out ?_) | (refine wpl_load rfl 55 _ rfl wr.heap.size 0 rfl A1 _ F3.out Try.underlying55 rfl HI1.out ?_) | (refine wpl_load rfl 55 _ rfl (wr.heap.size + 1) 0 rfl A2 _ F4.out Try.underlying55 rfl HI2.out ?_) | (refine wpl_store_new rfl 55 _ _ rfl _ A1 _ rfl rfl (by rw [HZ1.out]; rfl) HI1.out HO1.out ?_) | (refine wpl_store_new rfl 55 _ _ rfl _ A2 _ (by show Value.pointer (some ⟨wr.heap.size + 1, 0, none⟩) = _; simp) rfl (by rw [HZ2.out]; rfl) HI2.out HO2.out ?_))
            refine (HC.out _ HB2.out).mono ?_
            rintro e w1 ⟨rfl, hB1⟩
            have HB3 := Lib.hid (hB.out.trans ((HB2.out.trans (hB1.mono HB2.out.size)).mono hB.out.size))
            clear hB1
            go_wp2_with fail
            go_roundw
            case rel => exact ⟨ds ++ [y1], rs, rs', by rw [List.length_append]; go_num, Lib.hid (by rw [E1.out]; simp), Lib.hid (by rw [E2.out, hy.out]; simp), by simp; omega, by omega, HB3⟩
            case measure => simp [intOf]; omega
          | false =>
            have hy := Lib.hid (eqB_false (EQ.out.2 rfl))
            clear EQ
            go_wp2_with (first | (refine wpl_load rfl 55 _ rfl b1 (o1 + ds.length * 5) rfl A1 _ F1.out Try.underlying55 rfl HI1.out ?_) | (refine wpl_load rfl 55 _ rfl b2 (o2 + ds.length * 5) rfl A2 _ F2.out Try.underlying55 rfl HI2.out ?_) | (refine wpl_load rfl 55 _ rfl wr.heap.size 0 rfl A1 _ F3.out Try.underlying55 rfl HI1.out ?_) | (refine wpl_load rfl 55 _ rfl (wr.heap.size + 1) 0 rfl A2 _ F4.out Try.underlying55 rfl HI2.out ?_) | (refine wpl_store_new rfl 55 _ _ rfl _ A1 _ rfl rfl (by rw [HZ1.out]; rfl) HI1.out HO1.out ?_) | (refine wpl_store_new rfl 55 _ _ rfl _ A2 _ (by show Value.pointer (some ⟨wr.heap.size + 1, 0, none⟩) = _; simp) rfl (by rw [HZ2.out]; rfl) HI2.out HO2.out ?_))
            refine (HC.out _ HB2.out).mono ?_
            rintro e w1 ⟨rfl, hB1⟩
            have HB3 := Lib.hid (hB.out.trans ((HB2.out.trans (hB1.mono HB2.out.size)).mono hB.out.size))
            clear hB1
            go_wp2_with fail
            go_ret
            exact ⟨ret_bool hy.out, HB3.out⟩
  · have HB := Lib.hid (eqB_false (show ¬ xs = ys by intro e; exact hl (by rw [e])))
    have hl' : ((xs.length : Int) != (ys.length : Int)) = true := by simp; omega
    clear hl
    go_enter Try.func18, Try.ntmps18
    go_wp2_with fail
    go_ret
    exact ⟨ret_bool HB.out, Below.refl _ _⟩

set_option maxHeartbeats 6400000 in
theorem sameFunc_any (x y : Fnc) (s t : FncP) (N : Nat) (w : World) (hx : x.Ok w N s) (hy : y.Ok w N t) (hN : N ≤ w.heap.size) :
    Calls Try.prog 19 #[x.val s, y.val t] w fun e w' => e = .returned (.bool (eqB x y)) ∧ Below w.heap.size w w' := by
  obtain ⟨nm, ps, vs, rs, bd⟩ := x
  obtain ⟨nm', ps', vs', rs', bd'⟩ := y
  have HX := Lib.hid (fun w1 hb => cells_later (w0 := ((w.alloc (Obj.cells #[.string (str nm), .slice s.pp ps.length s.cp, .slice s.pv vs.length s.cv, .slice s.pr rs.length s.cr, .slice s.pb bd.len s.cb] 55)).alloc (Obj.cells #[.string (str nm'), .slice t.pp ps'.length t.cp, .slice t.pv vs'.length t.cv, .slice t.pr rs'.length t.cr, .slice t.pb bd'.len t.cb] 55))) (w1 := w1) (b := w.heap.size) (A := #[.string (str nm), .slice s.pp ps.length s.cp, .slice s.pv vs.length s.cv, .slice s.pr rs.length s.cr, .slice s.pb bd.len s.cb]) (t := 55) (by rw [heap_alloc_old _ _ (by simp)]; exact heap_alloc_new w _) hb)
  have HY := Lib.hid (fun w1 hb => cells_later (w0 := ((w.alloc (Obj.cells #[.string (str nm), .slice s.pp ps.length s.cp, .slice s.pv vs.length s.cv, .slice s.pr rs.length s.cr, .slice s.pb bd.len s.cb] 55)).alloc (Obj.cells #[.string (str nm'), .slice t.pp ps'.length t.cp, .slice t.pv vs'.length t.cv, .slice t.pr rs'.length t.cr, .slice t.pb bd'.len t.cb] 55))) (w1 := w1) (b := w.heap.size + 1) (A := #[.string (str nm'), .slice t.pp ps'.length t.cp, .slice t.pv vs'.length t.cv, .slice t.pr rs'.length t.cr, .slice t.pb bd'.len t.cb]) (t := 55) (by have := heap_alloc_new (w.alloc (Obj.cells #[.string (str nm), .slice s.pp ps.length s.cp, .slice s.pv vs.length s.cv, .slice s.pr rs.length s.cr, .slice s.pb bd.len s.cb] 55)) (Obj.cells #[.string (str nm'), .slice t.pp ps'.length t.cp, .slice t.pv vs'.length t.cv, .slice t.pr rs'.length t.cr, .slice t.pb bd'.len t.cb] 55); simpa using this) hb)
  have Hps := Lib.hid (fun (w1 : World) (hb : Below w.heap.size w w1) => eqVr_any ps ps' s.pp t.pp s.cp t.cp N w1 (hx.1.imp (Nat.le_refl _) (Vr.At.later (hb.mono hN))) (hy.1.imp (Nat.le_refl _) (Vr.At.later (hb.mono hN))) (Nat.le_trans hN hb.size))
  have Hvs := Lib.hid (fun (w1 : World) (hb : Below w.heap.size w w1) => eqVr_any vs vs' s.pv t.pv s.cv t.cv N w1 (hx.2.1.imp (Nat.le_refl _) (Vr.At.later (hb.mono hN))) (hy.2.1.imp (Nat.le_refl _) (Vr.At.later (hb.mono hN))) (Nat.le_trans hN hb.size))
  have Hrs := Lib.hid (fun (w1 : World) (hb : Below w.heap.size w w1) => eqStr_any rs rs' s.pr t.pr s.cr t.cr N w1 (hx.2.2.1.2.imp (Nat.le_refl _) (StrAt.later (hb.mono hN))) (hy.2.2.1.2.imp (Nat.le_refl _) (StrAt.later (hb.mono hN))) (Nat.le_trans hN hb.size))
  have Hbd := Lib.hid (fun (w1 : World) (hb : Below w.heap.size w w1) => sameStmts_any bd bd' s.pb t.pb s.cb t.cb N w1 (Sts.In.later hx.2.2.2 (hb.mono hN) (Nat.le_refl _)) (Sts.In.later hy.2.2.2 (hb.mono hN) (Nat.le_refl _)) (Nat.le_trans hN hb.size))
  have HB0 := Lib.hid (((Below.refl _ w).alloc (Nat.le_refl _) (Obj.cells #[.string (str nm), .slice s.pp ps.length s.cp, .slice s.pv vs.length s.cv, .slice s.pr rs.length s.cr, .slice s.pb bd.len s.cb] 55)).alloc (by simp) (Obj.cells #[.string (str nm'), .slice t.pp ps'.length t.cp, .slice t.pv vs'.length t.cv, .slice t.pr rs'.length t.cr, .slice t.pb bd'.len t.cb] 55))
  clear hx hy
  show Calls _ _ #[.agg #[.string (str nm), .slice s.pp ps.length s.cp, .slice s.pv vs.length s.cv, .slice s.pr rs.length s.cr, .slice s.pb bd.len s.cb], .agg #[.string (str nm'), .slice t.pp ps'.length t.cp, .slice t.pv vs'.length t.cv, .slice t.pr rs'.length t.cr, .slice t.pb bd'.len t.cb]] w _
  by_cases hvnm : nm = nm'
  · have Enm := Lib.hid hvnm
    have Tnm := str_beq_eq nm
    subst hvnm
    cases hvps : eqB ps ps' with
    | false =>
      have Fps := Lib.hid (eqB_of_false hvps)
      have HV := Lib.hid (eqB_false (show ¬ Fnc.mk nm ps vs rs bd = Fnc.mk nm ps' vs' rs' bd' from fun h => Fps.out (by injection h)))
      rw [hvps] at Hps
      clear hvps
      go_enter Try.func19, Try.ntmps19
      go_wp2_with fail
      refine (Hps.out _ HB0.out).mono ?_
      rintro z w1 ⟨rfl, hB⟩
      have HB1 := Lib.hid (HB0.out.trans (hB.mono HB0.out.size))
      have HD1 := Lib.hid hB
      clear hB
      go_wp2_with fail
      go_ret
      exact ⟨ret_bool HV.out, HB1.out⟩
    | true =>
      have Eps := Lib.hid (eqB_of_true hvps)
      rw [hvps] at Hps
      clear hvps
      cases hvvs : eqB vs vs' with
      | false =>
        have Fvs := Lib.hid (eqB_of_false hvvs)
        have HV := Lib.hid (eqB_false (show ¬ Fnc.mk nm ps vs rs bd = Fnc.mk nm ps' vs' rs' bd' from fun h => Fvs.out (by injection h)))
        rw [hvvs] at Hvs
        clear hvvs
        go_enter Try.func19, Try.ntmps19
        go_wp2_with fail
        refine (Hps.out _ HB0.out).mono ?_
        rintro z w1 ⟨rfl, hB⟩
        have HB1 := Lib.hid (HB0.out.trans (hB.mono HB0.out.size))
        have HD1 := Lib.hid hB
        clear hB
        have gx1_2 : w1.cell? ⟨w.heap.size, 2, none⟩ = some (.slice s.pv vs.length s.cv) := HX.out _ HD1.out 2 _ rfl
        have gy1_2 : w1.cell? ⟨w.heap.size + 1, 2, none⟩ = some (.slice t.pv vs'.length t.cv) := HY.out _ HD1.out 2 _ rfl
        have gx1_3 : w1.cell? ⟨w.heap.size, 3, none⟩ = some (.slice s.pr rs.length s.cr) := HX.out _ HD1.out 3 _ rfl
        have gy1_3 : w1.cell? ⟨w.heap.size + 1, 3, none⟩ = some (.slice t.pr rs'.length t.cr) := HY.out _ HD1.out 3 _ rfl
        have gx1_4 : w1.cell? ⟨w.heap.size, 4, none⟩ = some (.slice s.pb bd.len s.cb) := HX.out _ HD1.out 4 _ rfl
        have gy1_4 : w1.cell? ⟨w.heap.size + 1, 4, none⟩ = some (.slice t.pb bd'.len t.cb) := HY.out _ HD1.out 4 _ rfl
        go_wp2_with fail
        refine (Hvs.out _ HB1.out).mono ?_
        rintro z w2 ⟨rfl, hB⟩
        have HB2 := Lib.hid (HB1.out.trans (hB.mono HB1.out.size))
        have HD2 := Lib.hid (HD1.out.trans (hB.mono HD1.out.size))
        clear hB
        go_wp2_with fail
        go_ret
        exact ⟨ret_bool HV.out, HB2.out⟩
      | true =>
        have Evs := Lib.hid (eqB_of_true hvvs)
        rw [hvvs] at Hvs
        clear hvvs
        cases hvrs : eqB rs rs' with
        | false =>
          have Frs := Lib.hid (eqB_of_false hvrs)
          have HV := Lib.hid (eqB_false (show ¬ Fnc.mk nm ps vs rs bd = Fnc.mk nm ps' vs' rs' bd' from fun h => Frs.out (by injection h)))
          rw [hvrs] at Hrs
          clear hvrs
          go_enter Try.func19, Try.ntmps19
          go_wp2_with fail
          refine (Hps.out _ HB0.out).mono ?_
          rintro z w1 ⟨rfl, hB⟩
          have HB1 := Lib.hid (HB0.out.trans (hB.mono HB0.out.size))
          have HD1 := Lib.hid hB
          clear hB
          have gx1_2 : w1.cell? ⟨w.heap.size, 2, none⟩ = some (.slice s.pv vs.length s.cv) := HX.out _ HD1.out 2 _ rfl
          have gy1_2 : w1.cell? ⟨w.heap.size + 1, 2, none⟩ = some (.slice t.pv vs'.length t.cv) := HY.out _ HD1.out 2 _ rfl
          have gx1_3 : w1.cell? ⟨w.heap.size, 3, none⟩ = some (.slice s.pr rs.length s.cr) := HX.out _ HD1.out 3 _ rfl
          have gy1_3 : w1.cell? ⟨w.heap.size + 1, 3, none⟩ = some (.slice t.pr rs'.length t.cr) := HY.out _ HD1.out 3 _ rfl
          have gx1_4 : w1.cell? ⟨w.heap.size, 4, none⟩ = some (.slice s.pb bd.len s.cb) := HX.out _ HD1.out 4 _ rfl
          have gy1_4 : w1.cell? ⟨w.heap.size + 1, 4, none⟩ = some (.slice t.pb bd'.len t.cb) := HY.out _ HD1.out 4 _ rfl
          go_wp2_with fail
          refine (Hvs.out _ HB1.out).mono ?_
          rintro z w2 ⟨rfl, hB⟩
          have HB2 := Lib.hid (HB1.out.trans (hB.mono HB1.out.size))
          have HD2 := Lib.hid (HD1.out.trans (hB.mono HD1.out.size))
          clear hB
          have gx2_3 : w2.cell? ⟨w.heap.size, 3, none⟩ = some (.slice s.pr rs.length s.cr) := HX.out _ HD2.out 3 _ rfl
          have gy2_3 : w2.cell? ⟨w.heap.size + 1, 3, none⟩ = some (.slice t.pr rs'.length t.cr) := HY.out _ HD2.out 3 _ rfl
          have gx2_4 : w2.cell? ⟨w.heap.size, 4, none⟩ = some (.slice s.pb bd.len s.cb) := HX.out _ HD2.out 4 _ rfl
          have gy2_4 : w2.cell? ⟨w.heap.size + 1, 4, none⟩ = some (.slice t.pb bd'.len t.cb) := HY.out _ HD2.out 4 _ rfl
          go_wp2_with fail
          refine (Hrs.out _ HB2.out).mono ?_
          rintro z w3 ⟨rfl, hB⟩
          have HB3 := Lib.hid (HB2.out.trans (hB.mono HB2.out.size))
          have HD3 := Lib.hid (HD2.out.trans (hB.mono HD2.out.size))
          clear hB
          go_wp2_with fail
          go_ret
          exact ⟨ret_bool HV.out, HB3.out⟩
        | true =>
          have Ers := Lib.hid (eqB_of_true hvrs)
          rw [hvrs] at Hrs
          clear hvrs
          cases hvbd : eqB bd bd' with
          | false =>
            have Fbd := Lib.hid (eqB_of_false hvbd)
            have HV := Lib.hid (eqB_false (show ¬ Fnc.mk nm ps vs rs bd = Fnc.mk nm ps' vs' rs' bd' from fun h => Fbd.out (by injection h)))
            rw [hvbd] at Hbd
            clear hvbd
            go_enter Try.func19, Try.ntmps19
            go_wp2_with fail
            refine (Hps.out _ HB0.out).mono ?_
            rintro z w1 ⟨rfl, hB⟩
            have HB1 := Lib.hid (HB0.out.trans (hB.mono HB0.out.size))
            have HD1 := Lib.hid hB
            clear hB
            have gx1_2 : w1.cell? ⟨w.heap.size, 2, none⟩ = some (.slice s.pv vs.length s.cv) := HX.out _ HD1.out 2 _ rfl
            have gy1_2 : w1.cell? ⟨w.heap.size + 1, 2, none⟩ = some (.slice t.pv vs'.length t.cv) := HY.out _ HD1.out 2 _ rfl
            have gx1_3 : w1.cell? ⟨w.heap.size, 3, none⟩ = some (.slice s.pr rs.length s.cr) := HX.out _ HD1.out 3 _ rfl
            have gy1_3 : w1.cell? ⟨w.heap.size + 1, 3, none⟩ = some (.slice t.pr rs'.length t.cr) := HY.out _ HD1.out 3 _ rfl
            have gx1_4 : w1.cell? ⟨w.heap.size, 4, none⟩ = some (.slice s.pb bd.len s.cb) := HX.out _ HD1.out 4 _ rfl
            have gy1_4 : w1.cell? ⟨w.heap.size + 1, 4, none⟩ = some (.slice t.pb bd'.len t.cb) := HY.out _ HD1.out 4 _ rfl
            go_wp2_with fail
            refine (Hvs.out _ HB1.out).mono ?_
            rintro z w2 ⟨rfl, hB⟩
            have HB2 := Lib.hid (HB1.out.trans (hB.mono HB1.out.size))
            have HD2 := Lib.hid (HD1.out.trans (hB.mono HD1.out.size))
            clear hB
            have gx2_3 : w2.cell? ⟨w.heap.size, 3, none⟩ = some (.slice s.pr rs.length s.cr) := HX.out _ HD2.out 3 _ rfl
            have gy2_3 : w2.cell? ⟨w.heap.size + 1, 3, none⟩ = some (.slice t.pr rs'.length t.cr) := HY.out _ HD2.out 3 _ rfl
            have gx2_4 : w2.cell? ⟨w.heap.size, 4, none⟩ = some (.slice s.pb bd.len s.cb) := HX.out _ HD2.out 4 _ rfl
            have gy2_4 : w2.cell? ⟨w.heap.size + 1, 4, none⟩ = some (.slice t.pb bd'.len t.cb) := HY.out _ HD2.out 4 _ rfl
            go_wp2_with fail
            refine (Hrs.out _ HB2.out).mono ?_
            rintro z w3 ⟨rfl, hB⟩
            have HB3 := Lib.hid (HB2.out.trans (hB.mono HB2.out.size))
            have HD3 := Lib.hid (HD2.out.trans (hB.mono HD2.out.size))
            clear hB
            have gx3_4 : w3.cell? ⟨w.heap.size, 4, none⟩ = some (.slice s.pb bd.len s.cb) := HX.out _ HD3.out 4 _ rfl
            have gy3_4 : w3.cell? ⟨w.heap.size + 1, 4, none⟩ = some (.slice t.pb bd'.len t.cb) := HY.out _ HD3.out 4 _ rfl
            go_wp2_with fail
            refine (Hbd.out _ HB3.out).mono ?_
            rintro z w4 ⟨rfl, hB⟩
            have HB4 := Lib.hid (HB3.out.trans (hB.mono HB3.out.size))
            have HD4 := Lib.hid (HD3.out.trans (hB.mono HD3.out.size))
            clear hB
            go_wp2_with fail
            go_ret
            exact ⟨ret_bool HV.out, HB4.out⟩
          | true =>
            have Ebd := Lib.hid (eqB_of_true hvbd)
            rw [hvbd] at Hbd
            clear hvbd
            have HV := Lib.hid (eqB_true (show Fnc.mk nm ps vs rs bd = Fnc.mk nm ps' vs' rs' bd' by rw [Eps.out, Evs.out, Ers.out, Ebd.out]))
            go_enter Try.func19, Try.ntmps19
            go_wp2_with fail
            refine (Hps.out _ HB0.out).mono ?_
            rintro z w1 ⟨rfl, hB⟩
            have HB1 := Lib.hid (HB0.out.trans (hB.mono HB0.out.size))
            have HD1 := Lib.hid hB
            clear hB
            have gx1_2 : w1.cell? ⟨w.heap.size, 2, none⟩ = some (.slice s.pv vs.length s.cv) := HX.out _ HD1.out 2 _ rfl
            have gy1_2 : w1.cell? ⟨w.heap.size + 1, 2, none⟩ = some (.slice t.pv vs'.length t.cv) := HY.out _ HD1.out 2 _ rfl
            have gx1_3 : w1.cell? ⟨w.heap.size, 3, none⟩ = some (.slice s.pr rs.length s.cr) := HX.out _ HD1.out 3 _ rfl
            have gy1_3 : w1.cell? ⟨w.heap.size + 1, 3, none⟩ = some (.slice t.pr rs'.length t.cr) := HY.out _ HD1.out 3 _ rfl
            have gx1_4 : w1.cell? ⟨w.heap.size, 4, none⟩ = some (.slice s.pb bd.len s.cb) := HX.out _ HD1.out 4 _ rfl
            have gy1_4 : w1.cell? ⟨w.heap.size + 1, 4, none⟩ = some (.slice t.pb bd'.len t.cb) := HY.out _ HD1.out 4 _ rfl
            go_wp2_with fail
            refine (Hvs.out _ HB1.out).mono ?_
            rintro z w2 ⟨rfl, hB⟩
            have HB2 := Lib.hid (HB1.out.trans (hB.mono HB1.out.size))
            have HD2 := Lib.hid (HD1.out.trans (hB.mono HD1.out.size))
            clear hB
            have gx2_3 : w2.cell? ⟨w.heap.size, 3, none⟩ = some (.slice s.pr rs.length s.cr) := HX.out _ HD2.out 3 _ rfl
            have gy2_3 : w2.cell? ⟨w.heap.size + 1, 3, none⟩ = some (.slice t.pr rs'.length t.cr) := HY.out _ HD2.out 3 _ rfl
            have gx2_4 : w2.cell? ⟨w.heap.size, 4, none⟩ = some (.slice s.pb bd.len s.cb) := HX.out _ HD2.out 4 _ rfl
            have gy2_4 : w2.cell? ⟨w.heap.size + 1, 4, none⟩ = some (.slice t.pb bd'.len t.cb) := HY.out _ HD2.out 4 _ rfl
            go_wp2_with fail
            refine (Hrs.out _ HB2.out).mono ?_
            rintro z w3 ⟨rfl, hB⟩
            have HB3 := Lib.hid (HB2.out.trans (hB.mono HB2.out.size))
            have HD3 := Lib.hid (HD2.out.trans (hB.mono HD2.out.size))
            clear hB
            have gx3_4 : w3.cell? ⟨w.heap.size, 4, none⟩ = some (.slice s.pb bd.len s.cb) := HX.out _ HD3.out 4 _ rfl
            have gy3_4 : w3.cell? ⟨w.heap.size + 1, 4, none⟩ = some (.slice t.pb bd'.len t.cb) := HY.out _ HD3.out 4 _ rfl
            go_wp2_with fail
            refine (Hbd.out _ HB3.out).mono ?_
            rintro z w4 ⟨rfl, hB⟩
            have HB4 := Lib.hid (HB3.out.trans (hB.mono HB3.out.size))
            have HD4 := Lib.hid (HD3.out.trans (hB.mono HD3.out.size))
            clear hB
            go_wp2_with fail
            go_ret
            exact ⟨ret_bool HV.out, HB4.out⟩
  · have Fnm := Lib.hid hvnm
    have HV := Lib.hid (eqB_false (show ¬ Fnc.mk nm ps vs rs bd = Fnc.mk nm' ps' vs' rs' bd' from fun h => Fnm.out (by injection h)))
    have Tnm := str_beq_ne hvnm
    clear hvnm
    go_enter Try.func19, Try.ntmps19
    go_wp2_with fail
    go_ret
    exact ⟨ret_bool HV.out, HB0.out⟩

set_option maxHeartbeats 6400000 in
theorem same_any (x y : Prg) (p q p' q' : Option Addr) (c d c' d' N : Nat) (w : World) (hx : x.Ok w N p q) (hy : y.Ok w N p' q') (hN : N ≤ w.heap.size) :
    Calls Try.prog 8 #[x.val p q c d, y.val p' q' c' d'] w fun e w' => e = .returned (.bool (eqB x y)) ∧ Below w.heap.size w w' := by
  obtain ⟨rs, fs⟩ := x
  obtain ⟨rs', fs'⟩ := y
  have Hrs := Lib.hid (fun (w1 : World) (hb : Below w.heap.size w w1) => eqRgn_any rs rs' p p' c c' N w1 (hx.1.imp (Nat.le_refl _) (Rgn.At.later (hb.mono hN))) (hy.1.imp (Nat.le_refl _) (Rgn.At.later (hb.mono hN))) (Nat.le_trans hN hb.size))
  have Hfs := Lib.hid (fun (w1 : World) (hb : Below w.heap.size w w1) => eqfFn fs fs' q q' d d' N w1 (hx.2.imp (Nat.le_refl _) (Fnc.At.later (hb.mono hN) (Nat.le_refl _))) (hy.2.imp (Nat.le_refl _) (Fnc.At.later (hb.mono hN) (Nat.le_refl _))) (Nat.le_trans hN hb.size) (fun y1 _ y2 _ s1 s2 w2 _ o1 o2 => sameFunc_any y1 y2 s1 s2 w2.heap.size w2 o1 o2 (Nat.le_refl _)))
  have HB0 := Lib.hid (((Below.refl _ w).alloc (Nat.le_refl _) (Obj.cells #[.slice p rs.length c, .slice q fs.length d] 25)).alloc (by simp) (Obj.cells #[.slice p' rs'.length c', .slice q' fs'.length d'] 25))
  have HX := Lib.hid (fun w1 hb => cells_later (w0 := ((w.alloc (Obj.cells #[.slice p rs.length c, .slice q fs.length d] 25)).alloc (Obj.cells #[.slice p' rs'.length c', .slice q' fs'.length d'] 25))) (w1 := w1) (b := w.heap.size) (A := #[.slice p rs.length c, .slice q fs.length d]) (t := 25) (by rw [heap_alloc_old _ _ (by simp)]; exact heap_alloc_new w _) hb)
  have HY := Lib.hid (fun w1 hb => cells_later (w0 := ((w.alloc (Obj.cells #[.slice p rs.length c, .slice q fs.length d] 25)).alloc (Obj.cells #[.slice p' rs'.length c', .slice q' fs'.length d'] 25))) (w1 := w1) (b := w.heap.size + 1) (A := #[.slice p' rs'.length c', .slice q' fs'.length d']) (t := 25) (by have := heap_alloc_new (w.alloc (Obj.cells #[.slice p rs.length c, .slice q fs.length d] 25)) (Obj.cells #[.slice p' rs'.length c', .slice q' fs'.length d'] 25); simpa using this) hb)
  clear hx hy
  show Calls _ _ #[.agg #[.slice p rs.length c, .slice q fs.length d], .agg #[.slice p' rs'.length c', .slice q' fs'.length d']] w _
  cases hv : eqB rs rs' with
  | false =>
    have HV := Lib.hid (eqB_false (show ¬ Prg.mk rs fs = Prg.mk rs' fs' from fun h => eqB_of_false hv (by injection h)))
    rw [hv] at Hrs
    clear hv
    go_enter Try.func8, Try.ntmps8
    go_wp2_with fail
    refine (Hrs.out _ HB0.out).mono ?_
    rintro z w1 ⟨rfl, hB⟩
    have HB1 := Lib.hid (HB0.out.trans (hB.mono HB0.out.size))
    clear hB
    go_wp2_with fail
    go_ret
    exact ⟨ret_bool HV.out, HB1.out⟩
  | true =>
    have HV := Lib.hid (show eqB fs fs' = eqB (Prg.mk rs fs) (Prg.mk rs' fs') from eqB_iff ⟨fun h => by rw [h, eqB_of_true hv], fun h => by injection h⟩)
    rw [hv] at Hrs
    clear hv
    generalize eqB fs fs' = v at Hfs HV
    go_enter Try.func8, Try.ntmps8
    go_wp2_with fail
    refine (Hrs.out _ HB0.out).mono ?_
    rintro z w1 ⟨rfl, hB⟩
    have HB1 := Lib.hid (HB0.out.trans (hB.mono HB0.out.size))
    have gx : w1.cell? ⟨w.heap.size, 1, none⟩ = some (.slice q fs.length d) := HX.out _ hB 1 _ rfl
    have gy : w1.cell? ⟨w.heap.size + 1, 1, none⟩ = some (.slice q' fs'.length d') := HY.out _ hB 1 _ rfl
    clear hB
    go_wp2_with fail
    refine (Hfs.out _ HB1.out).mono ?_
    rintro z w2 ⟨rfl, hB⟩
    have HB2 := Lib.hid (HB1.out.trans (hB.mono HB1.out.size))
    clear hB
    go_wp2_with fail
    go_ret
    exact ⟨ret_bool HV.out, HB2.out⟩
end Go.Proofs.Ytnghehcjklkoeaa
