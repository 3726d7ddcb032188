/- Q1, Q2, Q3 as one. -/
import Derived.Test.YtchbnkepmeelkaaGreatDoorPA
import Derived.Test.YtchbnkepmeelkaaGreatDoorPE
import Derived.Lib.Strings
import Derived.StillTailTactics
/- Two rows are the same: slices.Equal, and the document's. -/
namespace Go.Proofs.YtchbnkepmeelkaaGreatDoor
open Go.RowKit

noncomputable def eqB {α : Type} (l m : α) : Bool := @decide (l = m) (Classical.propDecidable _)
theorem eqB_true {α : Type} {l m : α} (h : l = m) : true = eqB l m := by unfold eqB; exact (@decide_eq_true _ (Classical.propDecidable _) h).symm
theorem eqB_false {α : Type} {l m : α} (h : ¬ l = m) : false = eqB l m := by unfold eqB; exact (@decide_eq_false _ (Classical.propDecidable _) h).symm
theorem str_beq_ne {a b : List UInt8} (h : ¬ a = b) : ((str a).toList == (str b).toList) = false := by
  rw [Lib.toList_data, Lib.toList_data, str_data, str_data]; simpa using h
theorem str_beq_eq (a : List UInt8) : ((str a).toList == (str a).toList) = true := by simp
end Go.Proofs.YtchbnkepmeelkaaGreatDoor
/- Two expressions are the same: the loops. -/
namespace Go.Proofs.YtchbnkepmeelkaaGreatDoor
open Go.RowKit

theorem eqB_of_true {α : Type} {a b : α} (h : eqB a b = true) : a = b := by unfold eqB at h; exact @of_decide_eq_true _ (Classical.propDecidable _) h
theorem eqB_of_false {α : Type} {a b : α} (h : eqB a b = false) : ¬ a = b := by unfold eqB at h; exact @of_decide_eq_false _ (Classical.propDecidable _) h
def Ex.valP (x : Ex) (s : Option Addr × Nat) : Value := x.val s.1 s.2
def Ex.OkP (w : World) (N : Nat) (x : Ex) (s : Option Addr × Nat) : Prop := x.Ok w N s.1
theorem Ex.OkP.later {w w' : World} {N M : Nat} {x : Ex} {s : Option Addr × Nat} (h : Ex.OkP w N x s) (hw : Below N w w') (hM : N ≤ M) : Ex.OkP w' M x s := Ex.Ok.later h hw hM
def Ex.cells (x : Ex) (s : Option Addr × Nat) : Array Value := #[.int .i64 x.op, .int .u64 (x.word : Int), .string (str x.name), .slice s.1 x.args.len s.2]
theorem Ex.At.openP {w : World} {N : Nat} {x : Ex} {b o : Nat} (h : x.At w N b o) : ∃ s : Option Addr × Nat, (∀ j v, (x.cells s)[j]? = some v → w.cell? ⟨b, o + j, none⟩ = some v) ∧ Ex.OkP w N x s := by
  obtain ⟨p, c, h0, h1, h2, h3, ok⟩ := h.open'
  refine ⟨⟨p, c⟩, ?_, ok⟩
  intro j v hv
  rcases j with _ | _ | _ | _ | j
  all_goals first | (cases hv; assumption) | (simp [Ex.cells] at hv)
def Exs.toL : Exs → List Ex
  | .nil => []
  | .cons x r => x :: r.toL
theorem Exs.toL_len : ∀ l : Exs, l.len = l.toL.length
  | .nil => rfl
  | .cons x r => by simp [Exs.len, Exs.toL, Exs.toL_len r]
theorem Exs.toL_inj : ∀ {l m : Exs}, l.toL = m.toL → l = m
  | .nil, .nil, _ => rfl
  | .nil, .cons _ _, h => by cases h
  | .cons _ _, .nil, h => by cases h
  | .cons x r, .cons y z, h => by simp only [Exs.toL, List.cons.injEq] at h; rw [h.1, Exs.toL_inj h.2]
theorem Exs.toL_size : ∀ {l : Exs} {x : Ex}, x ∈ l.toL → x.size < l.size
  | .cons y r, x, h => by
    rcases List.mem_cons.1 h with rfl | h
    · simp only [Exs.size]; omega
    · have := Exs.toL_size h; simp only [Exs.size]; omega
theorem Exs.row {w : World} {N b : Nat} : ∀ (l : Exs) (o : Nat), l.At w N b o → Row (Ex.At w N) 4 l.toL b o
  | .nil, _, _ => trivial
  | .cons _x r, o, h => ⟨h.1, Exs.row r (o + 4) h.2⟩
theorem Exs.rowIn {w : World} {N : Nat} {l : Exs} {p : Option Addr} (h : l.In w N p) : RowIn N (Ex.At w N) 4 l.toL p := by
  unfold RowIn
  rw [← Exs.toL_len]
  exact Sl.imp h (Nat.le_refl _) fun b o _ ha => Exs.row l o ha
theorem eqB_exs (l m : Exs) : eqB l.toL m.toL = eqB l m := by
  by_cases h : l = m
  · rw [← eqB_true h, ← eqB_true (by rw [h])]
  · rw [← eqB_false h, ← eqB_false fun e => h (Exs.toL_inj e)]

set_option maxRecDepth 100000 in
set_option maxHeartbeats 3200000 in
theorem rExs (xs ys : List Ex) (p p' : Option Addr) (ca cb N : Nat) (w : World) (h1 : RowIn N (Ex.At w N) 4 xs p) (h2 : RowIn N (Ex.At w N) 4 ys p') (hN : N ≤ w.heap.size)
    (hcb : ∀ y1 ∈ xs, ∀ y2 ∈ ys, ∀ (s1 s2 : (Option Addr × Nat)) (w1 : World), Below w.heap.size w w1 → Ex.OkP w1 w1.heap.size y1 s1 → Ex.OkP w1 w1.heap.size y2 s2 → Calls Tryz.prog 17 #[Ex.valP y1 s1, Ex.valP y2 s2] w1 fun e w' => e = .returned (.bool (eqB y1 y2)) ∧ Below w1.heap.size w1 w') :
    Calls Tryz.prog 50 #[.slice p xs.length ca, .slice p' ys.length cb] w fun e w' => e = .returned (.bool (eqB xs ys)) ∧ Below w.heap.size w w' := by
  have S1 := Lib.hid h1
  have S2 := Lib.hid h2
  have HCB := Lib.hid hcb
  have hm1 := h1.1
  have hm2 := h2.1
  clear h1 h2 hcb
  by_cases hl : xs.length = ys.length
  · have HL := Lib.hid hl
    have hl' : ((xs.length : Int) != (ys.length : Int)) = false := by simp [hl]
    clear hl
    go_enter Tryz.func50, Tryz.ntmps50
    go_wp2_with fail
    go_loopw [5] (fun i wr => ∃ (ds rs rs' : List Ex), i = .int .i64 ds.length ∧ Hid (xs = ds ++ rs) ∧ Hid (ys = ds ++ rs') ∧ ds.length + rs.length = xs.length ∧ rs'.length = rs.length ∧ Hid (Below w.heap.size w wr)) (fun i _ => xs.length - (intOf i).toNat)
    case atStart => exact ⟨[], xs, ys, rfl, Lib.hid rfl, Lib.hid rfl, by simp, by have := HL.out; omega, Lib.hid (Below.refl _ _)⟩
    case round =>
      obtain ⟨ds, rs, rs', rfl, E1, E2, hd1, hd2, hB⟩ := hrel
      cases rs with
      | nil =>
        cases rs' with
        | cons _ _ => simp at hd2
        | nil =>
          simp only [List.length_nil] at hd1
          have hge : ¬ ds.length < xs.length := by omega
          have EQ := Lib.hid (eqB_true (show xs = ys by rw [E1.out, E2.out]))
          go_wp2_with fail
          go_ret
          exact ⟨ret_bool EQ.out, hB.out⟩
      | cons y1 rs =>
        cases rs' with
        | nil => simp at hd2
        | cons y2 rs' =>
          simp only [List.length_cons] at hd1 hd2
          have hlt1 : ds.length < xs.length := by omega
          have hlt2 : ds.length < ys.length := by have := HL.out; omega
          rcases S1.out.2 with h30 | ⟨b1, o1, rfl, hb1, ha1⟩
          · omega
          rcases S2.out.2 with h30 | ⟨b2, o2, rfl, hb2, ha2⟩
          · omega
          rw [E1.out] at ha1
          rw [E2.out] at ha2
          obtain ⟨s1, c1, ok1⟩ := Ex.At.openP (Ex.At.later ((hB.out).mono hN) (Nat.le_trans hN hB.out.size) y1 b1 _ hb1 (Row.drop _ _ _ ha1).1)
          obtain ⟨s2, c2, ok2⟩ := Ex.At.openP (Ex.At.later ((hB.out).mono hN) (Nat.le_trans hN hB.out.size) y2 b2 _ hb2 (Row.drop _ _ _ ha2).1)
          have HC := Lib.hid (fun (w1 : World) (hb : Below wr.heap.size wr w1) => HCB.out y1 (by rw [E1.out]; simp) y2 (by rw [E2.out]; simp) s1 s2 w1 (hB.out.trans (hb.mono hB.out.size)) (Ex.OkP.later ok1 hb hb.size) (Ex.OkP.later ok2 hb hb.size))
          have EQ := Lib.hid (show (eqB y1 y2 = true → y1 = y2) ∧ (eqB y1 y2 = false → ¬ xs = ys) from ⟨eqB_of_true, fun h e => by
              rw [E1.out, E2.out] at e
              have := List.append_cancel_left e
              injection this with e6 _
              exact eqB_of_false h e6⟩)
          have g0 : wr.cell? ⟨b1, o1 + ds.length * 4, none⟩ = some (.int .i64 y1.op) := c1 0 _ rfl
          have m0 : wr.cell? ⟨b2, o2 + ds.length * 4, none⟩ = some (.int .i64 y2.op) := c2 0 _ rfl
          have g1 : wr.cell? ⟨b1, o1 + ds.length * 4 + 1, none⟩ = some (.int .u64 (y1.word : Int)) := c1 1 _ rfl
          have m1 : wr.cell? ⟨b2, o2 + ds.length * 4 + 1, none⟩ = some (.int .u64 (y2.word : Int)) := c2 1 _ rfl
          have g2 : wr.cell? ⟨b1, o1 + ds.length * 4 + 2, none⟩ = some (.string (str y1.name)) := c1 2 _ rfl
          have m2 : wr.cell? ⟨b2, o2 + ds.length * 4 + 2, none⟩ = some (.string (str y2.name)) := c2 2 _ rfl
          have g3 : wr.cell? ⟨b1, o1 + ds.length * 4 + 3, none⟩ = some (.slice s1.1 y1.args.len s1.2) := c1 3 _ rfl
          have m3 : wr.cell? ⟨b2, o2 + ds.length * 4 + 3, none⟩ = some (.slice s2.1 y2.args.len s2.2) := c2 3 _ rfl
          clear c1 c2 ok1 ok2 ha1 ha2
          unfold Ex.valP Ex.val at HC
          generalize eqB y1 y2 = v at HC EQ
          have HD := Lib.hid (Below.refl wr.heap.size wr).drew
          cases v with
          | true =>
            have hy := Lib.hid (EQ.out.1 rfl)
            clear EQ
            go_wp2_with fail
            go_still_tail 8, (by kernel_rfl)
            change wpList _ _ _ _ _ (World.drew _)
            go_wp2_with (go_at_call 17; refine (HC.out _ HD.out).mono ?_; rintro e w' ⟨rfl, hB1⟩)
            go_roundw
            case rel => exact ⟨ds ++ [y1], rs, rs', by rw [List.length_append]; go_num, Lib.hid (by rw [E1.out]; simp), Lib.hid (by rw [E2.out, hy.out]; simp), by simp; omega, by omega, Lib.hid (hB.out.trans ((HD.out.trans hB1).mono hB.out.size))⟩
            case measure => simp [intOf]; omega
          | false =>
            have hy := Lib.hid (eqB_false (EQ.out.2 rfl))
            clear EQ
            go_wp2_with fail
            go_still_tail 8, (by kernel_rfl)
            change wpList _ _ _ _ _ (World.drew _)
            go_wp2_with (go_at_call 17; refine (HC.out _ HD.out).mono ?_; rintro e w' ⟨rfl, hB1⟩)
            go_ret
            exact ⟨ret_bool hy.out, hB.out.trans ((HD.out.trans hB1).mono hB.out.size)⟩
  · have HB := Lib.hid (eqB_false (show ¬ xs = ys by intro e; exact hl (by rw [e])))
    have hl' : ((xs.length : Int) != (ys.length : Int)) = true := by simp; omega
    clear hl
    go_enter Tryz.func50, Tryz.ntmps50
    go_wp2_with fail
    go_ret
    exact ⟨ret_bool HB.out, Below.refl _ _⟩
end Go.Proofs.YtchbnkepmeelkaaGreatDoor
/- Two expressions are the same. -/
namespace Go.Proofs.YtchbnkepmeelkaaGreatDoor
open Go.RowKit

theorem eqB_iff {α β : Type} {a b : α} {c d : β} (h : a = b ↔ c = d) : eqB a b = eqB c d := by
  by_cases k : a = b
  · rw [← eqB_true k, ← eqB_true (h.1 k)]
  · rw [← eqB_false k, ← eqB_false fun e => k (h.2 e)]

def RSE (n : Nat) : Prop := ∀ x y : Ex, x.size < n → ∀ (p q : Option Addr) (c d N : Nat) (w : World), x.Ok w N p → y.Ok w N q → N ≤ w.heap.size →
    Calls Tryz.prog 17 #[x.val p c, y.val q d] w fun e w' => e = .returned (.bool (eqB x y)) ∧ Below w.heap.size w w'
theorem rse_args (n : Nat) (ih : RSE n) (l m : Exs) (hs : l.size ≤ n) (p q : Option Addr) (c d N : Nat) (w : World) (h1 : l.In w N p) (h2 : m.In w N q) (hN : N ≤ w.heap.size) :
    Calls Tryz.prog 50 #[.slice p l.len c, .slice q m.len d] w fun e w' => e = .returned (.bool (eqB l m)) ∧ Below w.heap.size w w' := by
  have := rExs l.toL m.toL p q c d N w (Exs.rowIn h1) (Exs.rowIn h2) hN (fun y1 g1 y2 _ s1 s2 w1 hb o1 o2 => ih y1 y2 (by have := Exs.toL_size g1; omega) s1.1 s2.1 s1.2 s2.2 w1.heap.size w1 o1 o2 (Nat.le_refl _))
  rw [← Exs.toL_len, ← Exs.toL_len, eqB_exs] at this
  exact this
set_option maxHeartbeats 3200000 in
theorem rse_step (n : Nat) (ih : RSE n) : RSE (n + 1) := by
  intro x y hxs p q c d N w hx hy hN
  obtain ⟨op, wd, nm, ar⟩ := x
  obtain ⟨op', wd', nm', ar'⟩ := y
  simp only [Ex.size] at hxs
  have HC := Lib.hid (fun (w1 : World) (hb : Below w.heap.size w w1) => rse_args n ih ar ar' (by omega) p q c d N w1 (hx.1.later (hb.mono hN) (Nat.le_refl _)) (hy.1.later (hb.mono hN) (Nat.le_refl _)) (Nat.le_trans hN hb.size))
  have HB := Lib.hid (((Below.refl _ w).alloc (Nat.le_refl _) (Obj.cells #[.int .i64 op, .int .u64 (wd : Int), .string (str nm), .slice p ar.len c] 39)).alloc (by simp) (Obj.cells #[.int .i64 op', .int .u64 (wd' : Int), .string (str nm'), .slice q ar'.len d] 39))
  show Calls _ _ #[.agg #[.int .i64 op, .int .u64 (wd : Int), .string (str nm), .slice p ar.len c], .agg #[.int .i64 op', .int .u64 (wd' : Int), .string (str nm'), .slice q ar'.len d]] w _
  clear hx hy ih
  by_cases h1 : op = op'
  · by_cases h2 : wd = wd'
    · by_cases h3 : nm = nm'
      · subst h1; subst h2; subst h3
        have HV := Lib.hid (show eqB ar ar' = eqB (Ex.mk op wd nm ar) (Ex.mk op wd nm ar') from eqB_iff ⟨fun h => by rw [h], fun h => by injection h⟩)
        have e1 := str_beq_eq nm
        generalize eqB ar ar' = v at HC HV
        go_enter Tryz.func17, Tryz.ntmps17
        go_wp2_with fail
        refine (HC.out _ HB.out).mono ?_
        rintro e w1 ⟨rfl, hB1⟩
        have HB3 := Lib.hid (HB.out.trans (hB1.mono HB.out.size))
        clear hB1
        go_wp2_with fail
        go_ret
        exact ⟨ret_bool HV.out, HB3.out⟩
      · have HV := Lib.hid (eqB_false (show ¬ Ex.mk op wd nm ar = Ex.mk op' wd' nm' ar' from fun h => h3 (by injection h)))
        have e1 := str_beq_ne h3
        subst h1; subst h2
        go_enter Tryz.func17, Tryz.ntmps17
        go_wp2_with fail
        go_ret
        exact ⟨ret_bool HV.out, HB.out⟩
    · have HV := Lib.hid (eqB_false (show ¬ Ex.mk op wd nm ar = Ex.mk op' wd' nm' ar' from fun h => h2 (by injection h)))
      subst h1
      go_enter Tryz.func17, Tryz.ntmps17
      go_wp2_with fail
      go_ret
      exact ⟨ret_bool HV.out, HB.out⟩
  · have HV := Lib.hid (eqB_false (show ¬ Ex.mk op wd nm ar = Ex.mk op' wd' nm' ar' from fun h => h1 (by injection h)))
    go_enter Tryz.func17, Tryz.ntmps17
    go_wp2_with fail
    go_ret
    exact ⟨ret_bool HV.out, HB.out⟩
theorem rse_to : ∀ n, RSE n
  | 0 => fun _ _ h => absurd h (Nat.not_lt_zero _)
  | n + 1 => rse_step n (rse_to n)
theorem rse_any (x y : Ex) (p q : Option Addr) (c d N : Nat) (w : World) (hx : x.Ok w N p) (hy : y.Ok w N q) (hN : N ≤ w.heap.size) :
    Calls Tryz.prog 17 #[x.val p c, y.val q d] w fun e w' => e = .returned (.bool (eqB x y)) ∧ Below w.heap.size w w' :=
  rse_to _ x y (Nat.lt_succ_self _) p q c d N w hx hy hN
end Go.Proofs.YtchbnkepmeelkaaGreatDoor
