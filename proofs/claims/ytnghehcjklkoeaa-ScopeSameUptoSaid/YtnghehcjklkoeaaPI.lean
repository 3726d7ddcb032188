/- P3, P4, PI as one. -/
import Derived.Test.YtnghehcjklkoeaaP2
import Derived.Test.YtnghehcjklkoeaaK3
import Derived.Test.YtnghehcjklkoeaaPH
/- Two expressions are the same. -/
namespace Go.Proofs.Ytnghehcjklkoeaa
open Go.RowKit

theorem eqB_iff {α β : Type} {a b : α} {c d : β} (h : a = b ↔ c = d) : eqB a b = eqB c d := by
  by_cases k : a = b
  · rw [← eqB_true k, ← eqB_true (h.1 k)]
  · rw [← eqB_false k, ← eqB_false fun e => k (h.2 e)]

def PSE (n : Nat) : Prop := ∀ x y : Ex, x.size < n → ∀ (p q : Option Addr) (c d N : Nat) (w : World), x.Ok w N p → y.Ok w N q → N ≤ w.heap.size →
    Calls Try.prog 65 #[x.val p c, y.val q d] w fun e w' => e = .returned (.bool (eqB x y)) ∧ Below w.heap.size w w'
theorem pse_args (n : Nat) (ih : PSE n) (l m : Exs) (hs : l.size ≤ n) (p q : Option Addr) (c d N : Nat) (w : World) (h1 : l.In w N p) (h2 : m.In w N q) (hN : N ≤ w.heap.size) :
    Calls Try.prog 66 #[.slice p l.len c, .slice q m.len d, .func (Fn.func 65) #[] #[]] w fun e w' => e = .returned (.bool (eqB l m)) ∧ Below w.heap.size w w' := by
  have := eqfEx l.toL m.toL p q c d N w (Exs.rowIn h1) (Exs.rowIn h2) hN (fun y1 g1 y2 _ s1 s2 w1 hb o1 o2 => ih y1 y2 (by have := Exs.toL_size g1; omega) s1.1 s2.1 s1.2 s2.2 w1.heap.size w1 o1 o2 (Nat.le_refl _))
  rw [← Exs.toL_len, ← Exs.toL_len, eqB_exs] at this
  exact this
set_option maxHeartbeats 3200000 in
theorem pse_step (n : Nat) (ih : PSE n) : PSE (n + 1) := by
  intro x y hxs p q c d N w hx hy hN
  obtain ⟨op, wd, nm, ar⟩ := x
  obtain ⟨op', wd', nm', ar'⟩ := y
  simp only [Ex.size] at hxs
  have HC := Lib.hid (fun (w1 : World) (hb : Below w.heap.size w w1) => pse_args n ih ar ar' (by omega) p q c d N w1 (hx.1.later (hb.mono hN) (Nat.le_refl _)) (hy.1.later (hb.mono hN) (Nat.le_refl _)) (Nat.le_trans hN hb.size))
  have HB := Lib.hid (((Below.refl _ w).alloc (Nat.le_refl _) (Obj.cells #[.int .i64 op, .int .u64 (wd : Int), .string (str nm), .slice p ar.len c] 42)).alloc (by simp) (Obj.cells #[.int .i64 op', .int .u64 (wd' : Int), .string (str nm'), .slice q ar'.len d] 42))
  show Calls _ _ #[.agg #[.int .i64 op, .int .u64 (wd : Int), .string (str nm), .slice p ar.len c], .agg #[.int .i64 op', .int .u64 (wd' : Int), .string (str nm'), .slice q ar'.len d]] w _
  clear hx hy ih
  by_cases h1 : op = op'
  · by_cases h2 : wd = wd'
    · by_cases h3 : nm = nm'
      · subst h1; subst h2; subst h3
        have HV := Lib.hid (show eqB ar ar' = eqB (Ex.mk op wd nm ar) (Ex.mk op wd nm ar') from eqB_iff ⟨fun h => by rw [h], fun h => by injection h⟩)
        have e1 := str_beq_eq nm
        generalize eqB ar ar' = v at HC HV
        go_enter Try.func65, Try.ntmps65
        go_wp2_with fail
        refine (HC.out _ HB.out).mono ?_
        rintro e w1 ⟨rfl, hB1⟩
        have HB3 := Lib.hid (HB.out.trans (hB1.mono HB.out.size))
        clear hB1
        go_wp2_with fail
        go_ret
        exact ⟨ret_bool HV.out, HB3.out⟩
      · have HV := Lib.hid (eqB_false (show ¬ Ex.mk op wd nm ar = Ex.mk op' wd' nm' ar' from fun h => h3 (by injection h)))
        have e1 := str_beq_ne h3
        subst h1; subst h2
        go_enter Try.func65, Try.ntmps65
        go_wp2_with fail
        go_ret
        exact ⟨ret_bool HV.out, HB.out⟩
    · have HV := Lib.hid (eqB_false (show ¬ Ex.mk op wd nm ar = Ex.mk op' wd' nm' ar' from fun h => h2 (by injection h)))
      subst h1
      go_enter Try.func65, Try.ntmps65
      go_wp2_with fail
      go_ret
      exact ⟨ret_bool HV.out, HB.out⟩
  · have HV := Lib.hid (eqB_false (show ¬ Ex.mk op wd nm ar = Ex.mk op' wd' nm' ar' from fun h => h1 (by injection h)))
    go_enter Try.func65, Try.ntmps65
    go_wp2_with fail
    go_ret
    exact ⟨ret_bool HV.out, HB.out⟩
theorem pse_to : ∀ n, PSE n
  | 0 => fun _ _ h => absurd h (Nat.not_lt_zero _)
  | n + 1 => pse_step n (pse_to n)
theorem pse_any (x y : Ex) (p q : Option Addr) (c d N : Nat) (w : World) (hx : x.Ok w N p) (hy : y.Ok w N q) (hN : N ≤ w.heap.size) :
    Calls Try.prog 65 #[x.val p c, y.val q d] w fun e w' => e = .returned (.bool (eqB x y)) ∧ Below w.heap.size w w' :=
  pse_to _ x y (Nat.lt_succ_self _) p q c d N w hx hy hN
theorem pse_list (l m : Exs) (p q : Option Addr) (c d N : Nat) (w : World) (h1 : l.In w N p) (h2 : m.In w N q) (hN : N ≤ w.heap.size) :
    Calls Try.prog 66 #[.slice p l.len c, .slice q m.len d, .func (Fn.func 65) #[] #[]] w fun e w' => e = .returned (.bool (eqB l m)) ∧ Below w.heap.size w w' :=
  pse_args l.size (pse_to _) l m (Nat.le_refl _) p q c d N w h1 h2 hN

end Go.Proofs.Ytnghehcjklkoeaa
/- Two statements are the same: the program's. -/
namespace Go.Proofs.Ytnghehcjklkoeaa
open Go.RowKit

def St.valP (x : St) (s : StP) : Value := x.val s
def St.OkP (w : World) (N : Nat) (x : St) (s : StP) : Prop := x.Ok w N s
theorem St.OkP.later {w w' : World} {N M : Nat} {x : St} {s : StP} (h : St.OkP w N x s) (hw : Below N w w') (hM : N ≤ M) : St.OkP w' M x s := St.Ok.later h hw hM
theorem St.At.openP {w : World} {N : Nat} {x : St} {b o : Nat} (h : x.At w N b o) : ∃ s : StP, (∀ j v, (x.cells s)[j]? = some v → w.cell? ⟨b, o + j, none⟩ = some v) ∧ St.OkP w N x s := h.open
def Sts.toL : Sts → List St
  | .nil => []
  | .cons x r => x :: r.toL
theorem Sts.toL_len : ∀ l : Sts, l.len = l.toL.length
  | .nil => rfl
  | .cons x r => by simp [Sts.len, Sts.toL, Sts.toL_len r]
theorem Sts.toL_inj : ∀ {l m : Sts}, l.toL = m.toL → l = m
  | .nil, .nil, _ => rfl
  | .nil, .cons _ _, h => by cases h
  | .cons _ _, .nil, h => by cases h
  | .cons x r, .cons y z, h => by simp only [Sts.toL, List.cons.injEq] at h; rw [h.1, Sts.toL_inj h.2]
theorem Sts.toL_size : ∀ {l : Sts} {x : St}, x ∈ l.toL → x.size < l.size
  | .cons y r, x, h => by
    rcases List.mem_cons.1 h with rfl | h
    · simp only [Sts.size]; omega
    · have := Sts.toL_size h; simp only [Sts.size]; omega
theorem Sts.row {w : World} {N b : Nat} : ∀ (l : Sts) (o : Nat), l.At w N b o → Row (St.At w N) 16 l.toL b o
  | .nil, _, _ => trivial
  | .cons _x r, o, h => ⟨h.1, Sts.row r (o + 16) h.2⟩
theorem Sts.rowIn {w : World} {N : Nat} {l : Sts} {p : Option Addr} (h : l.In w N p) : RowIn N (St.At w N) 16 l.toL p := by
  unfold RowIn
  rw [← Sts.toL_len]
  exact Sl.imp h (Nat.le_refl _) fun b o _ ha => Sts.row l o ha
theorem eqB_sts (l m : Sts) : eqB l.toL m.toL = eqB l m := eqB_iff ⟨Sts.toL_inj, fun e => by rw [e]⟩
theorem cells_later {w0 w1 : World} {b : Nat} {A : Array Value} {t : TypeId} (h : w0.heap[b]? = some (.cells A t (0, 0))) (hb : Below w0.heap.size w0 w1) : ∀ j v, A[j]? = some v → w1.cell? ⟨b, j, none⟩ = some v := by
  intro j v hv
  have h1 := (hb.block _ (lt_of_block h)).trans h
  simp [World.cell?, h1, hv]
theorem infoStP : (Try.prog.info? 49).map (·.size) = some 16 := by kernel_rfl
theorem oneSt (x : St) (s : StP) : (x.cells s).all (·.oneCell') = true := by simp [St.cells, Value.oneCell']

set_option maxRecDepth 100000 in
set_option maxHeartbeats 3200000 in
theorem eqfSt (xs ys : List St) (p p' : Option Addr) (ca cb N : Nat) (w : World) (h1 : RowIn N (St.At w N) 16 xs p) (h2 : RowIn N (St.At w N) 16 ys p') (hN : N ≤ w.heap.size)
    (hcb : ∀ y1 ∈ xs, ∀ y2 ∈ ys, ∀ (s1 s2 : StP) (w1 : World), Below w.heap.size w w1 → St.OkP w1 w1.heap.size y1 s1 → St.OkP w1 w1.heap.size y2 s2 → Calls Try.prog 43 #[St.valP y1 s1, St.valP y2 s2] w1 fun e w' => e = .returned (.bool (eqB y1 y2)) ∧ Below w1.heap.size w1 w') :
    Calls Try.prog 42 #[.slice p xs.length ca, .slice p' ys.length cb, .func (Fn.func 43) #[] #[]] w fun e w' => e = .returned (.bool (eqB xs ys)) ∧ Below w.heap.size w w' := by
  have S1 := Lib.hid h1
  have S2 := Lib.hid h2
  have HCB := Lib.hid hcb
  have hm1 := h1.1
  have hm2 := h2.1
  clear h1 h2 hcb
  by_cases hl : xs.length = ys.length
  · have HL := Lib.hid hl
    have hl' : ((xs.length : Int) != (ys.length : Int)) = false := by simp [hl]
    clear hl
    go_enter Try.func42, Try.ntmps42
    go_wp2_with fail
    go_loopw [17] (fun i wr => ∃ (ds rs rs' : List St), i = .int .i64 ds.length ∧ Hid (xs = ds ++ rs) ∧ Hid (ys = ds ++ rs') ∧ ds.length + rs.length = xs.length ∧ rs'.length = rs.length ∧ Hid (Below w.heap.size w wr)) (fun i _ => xs.length - (intOf i).toNat)
    case atStart => exact ⟨[], xs, ys, rfl, Lib.hid rfl, Lib.hid rfl, by simp, by have := HL.out; omega, Lib.hid (Below.refl _ _)⟩
    case round =>
      obtain ⟨ds, rs, rs', rfl, E1, E2, hd1, hd2, hB⟩ := hrel
      cases rs with
      | nil =>
        cases rs' with
        | cons _ _ => simp at hd2
        | nil =>
          simp only [List.length_nil] at hd1
          have hge : ¬ ds.length < xs.length := by omega
          have EQ := Lib.hid (eqB_true (show xs = ys by rw [E1.out, E2.out]))
          go_wp2_with fail
          go_ret
          exact ⟨ret_bool EQ.out, hB.out⟩
      | cons y1 rs =>
        cases rs' with
        | nil => simp at hd2
        | cons y2 rs' =>
          simp only [List.length_cons] at hd1 hd2
          have hlt1 : ds.length < xs.length := by omega
          have hlt2 : ds.length < ys.length := by have := HL.out; omega
          rcases S1.out.2 with h30 | ⟨b1, o1, rfl, hb1, ha1⟩
          · omega
          rcases S2.out.2 with h30 | ⟨b2, o2, rfl, hb2, ha2⟩
          · omega
          rw [E1.out] at ha1
          rw [E2.out] at ha2
          obtain ⟨s1, c1, ok1⟩ := St.At.openP (St.At.later ((hB.out).mono hN) (Nat.le_trans hN hB.out.size) y1 b1 _ hb1 (Row.drop _ _ _ ha1).1)
          obtain ⟨s2, c2, ok2⟩ := St.At.openP (St.At.later ((hB.out).mono hN) (Nat.le_trans hN hB.out.size) y2 b2 _ hb2 (Row.drop _ _ _ ha2).1)
          have HC := Lib.hid (fun (w1 : World) (hb : Below wr.heap.size wr w1) => HCB.out y1 (by rw [E1.out]; simp) y2 (by rw [E2.out]; simp) s1 s2 w1 (hB.out.trans (hb.mono hB.out.size)) (St.OkP.later ok1 hb hb.size) (St.OkP.later ok2 hb hb.size))
          have EQ := Lib.hid (show (eqB y1 y2 = true → y1 = y2) ∧ (eqB y1 y2 = false → ¬ xs = ys) from ⟨eqB_of_true, fun h e => by
              rw [E1.out, E2.out] at e
              have := List.append_cancel_left e
              injection this with e6 _
              exact eqB_of_false h e6⟩)
          obtain ⟨A1, hA1⟩ : ∃ A1, y1.cells s1 = A1 := ⟨_, rfl⟩
          obtain ⟨A2, hA2⟩ : ∃ A2, y2.cells s2 = A2 := ⟨_, rfl⟩
          have HZ1 := Lib.hid (show A1.size = 16 by rw [← hA1]; rfl)
          have HZ2 := Lib.hid (show A2.size = 16 by rw [← hA2]; rfl)
          have HO1 := Lib.hid (show A1.all (·.oneCell') = true by rw [← hA1]; exact oneSt _ _)
          have HO2 := Lib.hid (show A2.all (·.oneCell') = true by rw [← hA2]; exact oneSt _ _)
          have r1 : wr.rangeAt b1 (o1 + ds.length * 16) A1.toList := fun j v hv => c1 j v (by rw [hA1, ← Array.getElem?_toList]; exact hv)
          have r2 : wr.rangeAt b2 (o2 + ds.length * 16) A2.toList := fun j v hv => c2 j v (by rw [hA2, ← Array.getElem?_toList]; exact hv)
          have HB2 := Lib.hid (((Below.refl _ wr).alloc (Nat.le_refl _) (Obj.cells A1 49)).alloc (by simp) (Obj.cells A2 49))
          have F1 := Lib.hid r1
          have F2 := Lib.hid (range_later r2 (show b2 < wr.heap.size by have := hB.out.size; omega) ((Below.refl _ wr).alloc (Nat.le_refl _) (Obj.cells A1 49)))
          have F3 := Lib.hid (range_later (range_new wr A1 49) (show wr.heap.size < (wr.alloc (Obj.cells A1 49)).heap.size by simp) ((Below.refl _ _).alloc (Nat.le_refl _) (Obj.cells A2 49)))
          have F4 := Lib.hid (show ((wr.alloc (Obj.cells A1 49)).alloc (Obj.cells A2 49)).rangeAt (wr.heap.size + 1) 0 A2.toList by have := range_new (wr.alloc (Obj.cells A1 49)) A2 49; simpa using this)
          have HI1 := Lib.hid (infoStP.trans (by rw [HZ1.out]) : (Try.prog.info? 49).map (·.size) = some A1.size)
          have HI2 := Lib.hid (infoStP.trans (by rw [HZ2.out]) : (Try.prog.info? 49).map (·.size) = some A2.size)
          unfold St.valP St.val at HC
          rw [hA1, hA2] at HC
          clear c1 c2 ok1 ok2 ha1 ha2 r1 r2 hA1 hA2
          generalize eqB y1 y2 = v at HC EQ
          cases v with
          | true =>
            have hy := Lib.hid (EQ.out.1 rfl)
            clear EQ
            go_wp2_with (first | (refine wpl_load rfl 49 _ rfl b1 (o1 + ds.length * 16) rfl A1 _ F1.out Try.underlying49 rfl HI1.out ?_) | (refine wpl_load rfl 49 _ rfl b2 (o2 + ds.length * 16) rfl A2 _ F2.out Try.underlying49 rfl HI2.out ?_) | (refine wpl_load rfl 49 _ rfl wr.heap.size 0 rfl A1 _ F3.out Try.underlying49 rfl HI1.out ?_) | (refine wpl_load rfl 49 _ rfl (wr.heap.size + 1) 0 rfl A2 _ F4.out Try.underlying49 rfl HI2.out ?_) | (refine wpl_store_new rfl 49 _ _ rfl _ A1 _ rfl rfl (by rw [HZ1.out]; rfl) HI1.out HO1.out ?_) | (refine wpl_store_new rfl 49 _ _ rfl _ A2 _ (by show Value.pointer (some ⟨wr.heap.size + 1, 0, none⟩) = _; simp) rfl (by rw [HZ2.out]; rfl) HI2.out HO2.out ?_))
            refine (HC.out _ HB2.out).mono ?_
            rintro e w1 ⟨rfl, hB1⟩
            have HB3 := Lib.hid (hB.out.trans ((HB2.out.trans (hB1.mono HB2.out.size)).mono hB.out.size))
            clear hB1
            go_wp2_with fail
            go_roundw
            case rel => exact ⟨ds ++ [y1], rs, rs', by rw [List.length_append]; go_num, Lib.hid (by rw [E1.out]; simp), Lib.hid (by rw [E2.out, hy.out]; simp), by simp; omega, by omega, HB3⟩
            case measure => simp [intOf]; omega
          | false =>
            have hy := Lib.hid (eqB_false (EQ.out.2 rfl))
            clear EQ
            go_wp2_with (first | (refine wpl_load rfl 49 _ rfl b1 (o1 + ds.length * 16) rfl A1 _ F1.out Try.underlying49 rfl HI1.out ?_) | (refine wpl_load rfl 49 _ rfl b2 (o2 + ds.length * 16) rfl A2 _ F2.out Try.underlying49 rfl HI2.out ?_) | (refine wpl_load rfl 49 _ rfl wr.heap.size 0 rfl A1 _ F3.out Try.underlying49 rfl HI1.out ?_) | (refine wpl_load rfl 49 _ rfl (wr.heap.size + 1) 0 rfl A2 _ F4.out Try.underlying49 rfl HI2.out ?_) | (refine wpl_store_new rfl 49 _ _ rfl _ A1 _ rfl rfl (by rw [HZ1.out]; rfl) HI1.out HO1.out ?_) | (refine wpl_store_new rfl 49 _ _ rfl _ A2 _ (by show Value.pointer (some ⟨wr.heap.size + 1, 0, none⟩) = _; simp) rfl (by rw [HZ2.out]; rfl) HI2.out HO2.out ?_))
            refine (HC.out _ HB2.out).mono ?_
            rintro e w1 ⟨rfl, hB1⟩
            have HB3 := Lib.hid (hB.out.trans ((HB2.out.trans (hB1.mono HB2.out.size)).mono hB.out.size))
            clear hB1
            go_wp2_with fail
            go_ret
            exact ⟨ret_bool hy.out, HB3.out⟩
  · have HB := Lib.hid (eqB_false (show ¬ xs = ys by intro e; exact hl (by rw [e])))
    have hl' : ((xs.length : Int) != (ys.length : Int)) = true := by simp; omega
    clear hl
    go_enter Try.func42, Try.ntmps42
    go_wp2_with fail
    go_ret
    exact ⟨ret_bool HB.out, Below.refl _ _⟩

def PSS (n : Nat) : Prop := ∀ x y : St, x.size < n → ∀ (s t : StP) (N : Nat) (w : World), x.Ok w N s → y.Ok w N t → N ≤ w.heap.size →
    Calls Try.prog 43 #[x.val s, y.val t] w fun e w' => e = .returned (.bool (eqB x y)) ∧ Below w.heap.size w w'
set_option maxHeartbeats 1600000 in
theorem pss_args (n : Nat) (ih : PSS n) (l m : Sts) (hs : l.size ≤ n) (p q : Option Addr) (c d N : Nat) (w : World) (h1 : l.In w N p) (h2 : m.In w N q) (hN : N ≤ w.heap.size) :
    Calls Try.prog 42 #[.slice p l.len c, .slice q m.len d, .func (Fn.func 43) #[] #[]] w fun e w' => e = .returned (.bool (eqB l m)) ∧ Below w.heap.size w w' := by
  have := eqfSt l.toL m.toL p q c d N w (Sts.rowIn h1) (Sts.rowIn h2) hN (fun y1 g1 y2 _ s1 s2 w1 hb o1 o2 => ih y1 y2 (by have := Sts.toL_size g1; omega) s1 s2 w1.heap.size w1 o1 o2 (Nat.le_refl _))
  rw [← Sts.toL_len, ← Sts.toL_len, eqB_sts] at this
  exact this
end Go.Proofs.Ytnghehcjklkoeaa
/- Lists in new memory: where they lie. -/
namespace Go.Proofs.Ytnghehcjklkoeaa
open Go.RowKit

theorem St.At.of {w : World} {N : Nat} {x : St} {s : StP} {b o : Nat} (hc : ∀ j u, (x.cells s)[j]? = some u → w.cell? ⟨b, o + j, none⟩ = some u) (h : x.Ok w N s) : x.At w N b o := by
  have c0 := hc 0 _ rfl
  have c1 := hc 1 _ rfl
  have c2 := hc 2 _ rfl
  have c3 := hc 3 _ rfl
  have c4 := hc 4 _ rfl
  have c5 := hc 5 _ rfl
  have c6 := hc 6 _ rfl
  have c7 := hc 7 _ rfl
  have c8 := hc 8 _ rfl
  have c9 := hc 9 _ rfl
  have c10 := hc 10 _ rfl
  have c11 := hc 11 _ rfl
  have c12 := hc 12 _ rfl
  have c13 := hc 13 _ rfl
  have c14 := hc 14 _ rfl
  have c15 := hc 15 _ rfl
  obtain ⟨kd, nm, ns, ⟨eo, ew, en, ea⟩, ⟨ao, aw, an, aa⟩, as', lo, hi, bd, el⟩ := x
  obtain ⟨h1, h2, h3, h4, h5, h6, h7, h8⟩ := h
  exact ⟨⟨c0, c1, c12, c13, h7, h8⟩, ⟨s.pn, s.cn, c2, h1⟩, ⟨⟨c3, c4, c5, h2.2⟩, ⟨s.pe, s.ce, c6, h2.1⟩⟩, ⟨⟨c7, c8, c9, h3.2⟩, ⟨s.pa, s.ca, c10, h3.1⟩⟩, ⟨s.pg, s.cg, c11, h4⟩, ⟨s.pb, s.cb, c14, h5⟩, ⟨s.pl, s.cl, c15, h6⟩⟩
theorem Fnc.At.of {w : World} {N : Nat} {x : Fnc} {s : FncP} {b o : Nat} (hc : ∀ j u, (x.cells s)[j]? = some u → w.cell? ⟨b, o + j, none⟩ = some u) (h : x.Ok w N s) : x.At w N b o :=
  ⟨hc 0 _ rfl, ⟨s.pp, s.cp, hc 1 _ rfl, h.1⟩, ⟨s.pv, s.cv, hc 2 _ rfl, h.2.1⟩, ⟨s.pr, s.cr, hc 3 _ rfl, h.2.2.1⟩, ⟨s.pb, s.cb, hc 4 _ rfl, h.2.2.2⟩⟩
theorem cut_here {w : World} {T : Nat → Bool} {b o : Nat} {A : Array Value} (hT : T b = true) (h : ∀ j u, A[j]? = some u → w.cell? ⟨b, o + j, none⟩ = some u) : ∀ j u, A[j]? = some u → (cut T w).cell? ⟨b, o + j, none⟩ = some u := fun j u hu => by rw [cell_cut, if_pos hT]; exact h j u hu
theorem le_cut {w : World} {S T : Nat → Bool} (hST : ∀ k, S k = true → T k = true) : Le (cut S w) (cut T w) := Le.cut2 fun b hb => ⟨hST b hb, fun _ _ h => h⟩
theorem done_sts {w : World} {S T : Nat → Bool} {M g : Nat} (hg : T g = true) (hST : ∀ k, S k = true → T k = true) : ∀ (l : Sts) (o : Nat), Row (stK.Done w S M) 16 l.toL g o → l.At (cut T w) M g o
  | .nil, _, _ => trivial
  | .cons _x r, o, ⟨⟨_s, hs, hok⟩, hr⟩ => ⟨St.At.of (cut_here hg hs) (St.Ok.le hok (le_cut hST) (Nat.le_refl M)), done_sts hg hST r (o + 16) hr⟩
theorem done_fns {w : World} {S T : Nat → Bool} {M g : Nat} (hg : T g = true) (hST : ∀ k, S k = true → T k = true) (l : List Fnc) (o : Nat) (h : Row (fnK.Done w S M) 5 l g o) : Row (Fnc.At (cut T w) M) 5 l g o :=
  Row.imp (fun _x _o ⟨_s, hs, hok⟩ => Fnc.At.of (cut_here hg hs) (Fnc.Ok.le hok (le_cut hST) (Nat.le_refl M))) l o h
theorem own_in {α : Type} {A : World → α → Nat → Nat → Prop} {k : Nat} {cs : List α → List Value} (hA : ∀ (W : World) (l : List α) (b o : Nat), (∀ j u, (cs l)[j]? = some u → W.cell? ⟨b, o + j, none⟩ = some u) → Row (A W) k l b o)
    {w : World} {B ty : Nat} {v : Value} {l : List α} (h : w.ownsRow B ty k v l.length (cs l)) (hl : l.length ≤ 140737488355328) :
    ∃ (q : Option Addr) (c : Nat) (S : Nat → Bool), v = .slice q l.length c ∧ l.length ≤ c ∧ RowIn w.heap.size (A (cut S w)) k l q ∧ Wr S w.heap.size w ∧ ∀ i, S i = true → B ≤ i := by
  rcases h.2 with ⟨rfl, h0⟩ | ⟨g, cap, cur, rfl, hg, hk, hnc, hm, hs, ht⟩
  · exact ⟨none, 0, fun _ => false, by rw [h0], by omega, ⟨by omega, .inl h0⟩, (fun _ h => (by cases h)), fun _ h => (by cases h)⟩
  · refine ⟨_, cap, fun i => i == g, rfl, hnc, ⟨hl, .inr ⟨g, 0, rfl, lt_blk hk, hA _ l g 0 fun j u hu => ?_⟩⟩, fun b hb => ?_, fun i hi => ?_⟩
    · rw [cell_cut, if_pos (by simp), Nat.zero_add]
      rw [← ht, List.getElem?_take] at hu
      split at hu
      · exact cell_blk hk (by rw [← Array.getElem?_toList]; exact hu)
      · cases hu
    · obtain rfl : b = g := by simpa using hb
      exact ⟨lt_blk hk, fun o => by simp [World.frozen?, hk]⟩
    · obtain rfl : i = g := by simpa using hi
      exact hg
def Rgn.cells (v : Rgn) : List Value := [.string (str v.name), .int .i64 v.addr, .int .i64 v.size, .bool v.secret]
def rgCells (l : List Rgn) : List Value := l.flatMap Rgn.cells
theorem rg_len : ∀ l : List Rgn, (rgCells l).length = l.length * 4
  | [] => rfl
  | x :: l => by have := rg_len l; unfold rgCells at this ⊢; simp [Rgn.cells, this]; omega
theorem rg_one : ∀ (l : List Rgn), ∀ u ∈ rgCells l, u.oneCell' = true
  | [], u, h => by cases h
  | x :: l, u, h => by
    simp only [rgCells, List.flatMap_cons, Rgn.cells, List.mem_append, List.mem_cons, List.not_mem_nil, or_false] at h
    rcases h with (rfl | rfl | rfl | rfl) | h
    · rfl
    · rfl
    · rfl
    · rfl
    · exact rg_one l u h
theorem rg_list {w : World} : ∀ (l : List Rgn) (b o : Nat), Row (Rgn.At w) 4 l b o → ∀ j u, (rgCells l)[j]? = some u → w.cell? ⟨b, o + j, none⟩ = some u
  | [], _, _, _, j, u, h => by simp [rgCells] at h
  | x :: l, b, o, h, 0, u, hu => by simp [rgCells, Rgn.cells] at hu; subst hu; exact h.1.1
  | x :: l, b, o, h, 1, u, hu => by simp [rgCells, Rgn.cells] at hu; subst hu; exact h.1.2.1
  | x :: l, b, o, h, 2, u, hu => by simp [rgCells, Rgn.cells] at hu; subst hu; exact h.1.2.2.1
  | x :: l, b, o, h, 3, u, hu => by simp [rgCells, Rgn.cells] at hu; subst hu; exact h.1.2.2.2
  | x :: l, b, o, h, j + 4, u, hu => by
    have := rg_list l b (o + 4) h.2 j u (by simpa [rgCells, Rgn.cells] using hu)
    rw [show o + (j + 4) = o + 4 + j by omega]; exact this
theorem rg_of {w : World} : ∀ (l : List Rgn) (b o : Nat), (∀ j u, (rgCells l)[j]? = some u → w.cell? ⟨b, o + j, none⟩ = some u) → Row (Rgn.At w) 4 l b o
  | [], _, _, _ => trivial
  | x :: l, b, o, h => ⟨⟨h 0 _ (by simp [rgCells, Rgn.cells]), h 1 _ (by simp [rgCells, Rgn.cells]), h 2 _ (by simp [rgCells, Rgn.cells]), h 3 _ (by simp [rgCells, Rgn.cells])⟩, rg_of l b (o + 4) fun j u hu => by
    have := h (j + 4) u (by simpa [rgCells, Rgn.cells] using hu)
    rw [show o + (j + 4) = o + 4 + j by omega] at this; exact this⟩
theorem rg_src {w : World} {N : Nat} {l : List Rgn} {p : Option Addr} (h : RowIn N (Rgn.At w) 4 l p) : Src w 4 p l.length (rgCells l) := by
  refine ⟨rg_len l, ?_⟩
  rcases h.2 with h0 | ⟨b, o, hp, _, ha⟩
  · exact .inl h0
  · exact .inr ⟨b, o, hp, rg_list l b o ha⟩
theorem st_src {w : World} {N : Nat} {l : List (List UInt8)} {p : Option Addr} (h : RowIn N (StrAt w) 1 l p) : Src w 1 p l.length (strCells l) := by
  refine ⟨by simp [strCells], ?_⟩
  rcases h.2 with h0 | ⟨b, o, hp, _, ha⟩
  · exact .inl h0
  · exact .inr ⟨b, o, hp, str_list l b o ha⟩
theorem st_one : ∀ (l : List (List UInt8)), ∀ u ∈ strCells l, u.oneCell' = true := fun l u h => by
  obtain ⟨s, _, rfl⟩ := List.mem_map.1 h; rfl
theorem Sts.big_len : ∀ l : Sts, l.len ≤ l.big
  | .nil => Nat.zero_le _
  | .cons x r => by have := big_len r; have := x.big_eq; simp only [Sts.len, Sts.big]; omega
theorem Sts.toL_big : ∀ {l : Sts} {x : St}, x ∈ l.toL → x.big ≤ l.big
  | .cons y r, x, h => by
    rcases List.mem_cons.1 h with rfl | h
    · simp only [Sts.big]; omega
    · have := Sts.toL_big h; simp only [Sts.big]; omega
end Go.Proofs.Ytnghehcjklkoeaa
