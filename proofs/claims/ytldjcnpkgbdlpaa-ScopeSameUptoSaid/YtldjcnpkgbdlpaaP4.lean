/- Two statements are the same: the program's. -/
import Derived.Test.YtldjcnpkgbdlpaaP3
import Derived.Test.YtldjcnpkgbdlpaaQ0
namespace Go.Proofs.Ytldjcnpkgbdlpaa
open Go.RowKit

def St.valP (x : St) (s : StP) : Value := x.val s
def St.OkP (w : World) (N : Nat) (x : St) (s : StP) : Prop := x.Ok w N s
theorem St.OkP.later {w w' : World} {N M : Nat} {x : St} {s : StP} (h : St.OkP w N x s) (hw : Below N w w') (hM : N ≤ M) : St.OkP w' M x s := St.Ok.later h hw hM
theorem St.At.openP {w : World} {N : Nat} {x : St} {b o : Nat} (h : x.At w N b o) : ∃ s : StP, (∀ j v, (x.cells s)[j]? = some v → w.cell? ⟨b, o + j, none⟩ = some v) ∧ St.OkP w N x s := h.open
def Sts.toL : Sts → List St
  | .nil => []
  | .cons x r => x :: r.toL
theorem Sts.toL_len : ∀ l : Sts, l.len = l.toL.length
  | .nil => rfl
  | .cons x r => by simp [Sts.len, Sts.toL, Sts.toL_len r]
theorem Sts.toL_inj : ∀ {l m : Sts}, l.toL = m.toL → l = m
  | .nil, .nil, _ => rfl
  | .nil, .cons _ _, h => by cases h
  | .cons _ _, .nil, h => by cases h
  | .cons x r, .cons y z, h => by simp only [Sts.toL, List.cons.injEq] at h; rw [h.1, Sts.toL_inj h.2]
theorem Sts.toL_size : ∀ {l : Sts} {x : St}, x ∈ l.toL → x.size < l.size
  | .cons y r, x, h => by
    rcases List.mem_cons.1 h with rfl | h
    · simp only [Sts.size]; omega
    · have := Sts.toL_size h; simp only [Sts.size]; omega
theorem Sts.row {w : World} {N b : Nat} : ∀ (l : Sts) (o : Nat), l.At w N b o → Row (St.At w N) 16 l.toL b o
  | .nil, _, _ => trivial
  | .cons _x r, o, h => ⟨h.1, Sts.row r (o + 16) h.2⟩
theorem Sts.rowIn {w : World} {N : Nat} {l : Sts} {p : Option Addr} (h : l.In w N p) : RowIn N (St.At w N) 16 l.toL p := by
  unfold RowIn
  rw [← Sts.toL_len]
  exact Sl.imp h (Nat.le_refl _) fun b o _ ha => Sts.row l o ha
theorem eqB_sts (l m : Sts) : eqB l.toL m.toL = eqB l m := eqB_iff ⟨Sts.toL_inj, fun e => by rw [e]⟩
theorem cells_later {w0 w1 : World} {b : Nat} {A : Array Value} {t : TypeId} (h : w0.heap[b]? = some (.cells A t (0, 0))) (hb : Below w0.heap.size w0 w1) : ∀ j v, A[j]? = some v → w1.cell? ⟨b, j, none⟩ = some v := by
  intro j v hv
  have h1 := (hb.block _ (lt_of_block h)).trans h
  simp [World.cell?, h1, hv]
theorem infoStP : (Try.prog.info? 49).map (·.size) = some 16 := by kernel_rfl
theorem oneSt (x : St) (s : StP) : (x.cells s).all (·.oneCell') = true := by simp [St.cells, Value.oneCell']

set_option maxRecDepth 100000 in
set_option maxHeartbeats 3200000 in
theorem eqfSt (xs ys : List St) (p p' : Option Addr) (ca cb N : Nat) (w : World) (h1 : RowIn N (St.At w N) 16 xs p) (h2 : RowIn N (St.At w N) 16 ys p') (hN : N ≤ w.heap.size)
    (hcb : ∀ y1 ∈ xs, ∀ y2 ∈ ys, ∀ (s1 s2 : StP) (w1 : World), Below w.heap.size w w1 → St.OkP w1 w1.heap.size y1 s1 → St.OkP w1 w1.heap.size y2 s2 → Calls Try.prog 38 #[St.valP y1 s1, St.valP y2 s2] w1 fun e w' => e = .returned (.bool (eqB y1 y2)) ∧ Below w1.heap.size w1 w') :
    Calls Try.prog 37 #[.slice p xs.length ca, .slice p' ys.length cb, .func (Fn.func 38) #[] #[]] w fun e w' => e = .returned (.bool (eqB xs ys)) ∧ Below w.heap.size w w' := by
  have S1 := Lib.hid h1
  have S2 := Lib.hid h2
  have HCB := Lib.hid hcb
  have hm1 := h1.1
  have hm2 := h2.1
  clear h1 h2 hcb
  by_cases hl : xs.length = ys.length
  · have HL := Lib.hid hl
    have hl' : ((xs.length : Int) != (ys.length : Int)) = false := by simp [hl]
    clear hl
    go_enter Try.func37, Try.ntmps37
    go_wp2_with fail
    go_loopw [17] (fun i wr => ∃ (ds rs rs' : List St), i = .int .i64 ds.length ∧ Hid (xs = ds ++ rs) ∧ Hid (ys = ds ++ rs') ∧ ds.length + rs.length = xs.length ∧ rs'.length = rs.length ∧ Hid (Below w.heap.size w wr)) (fun i _ => xs.length - (intOf i).toNat)
    case atStart => exact ⟨[], xs, ys, rfl, Lib.hid rfl, Lib.hid rfl, by simp, by have := HL.out; omega, Lib.hid (Below.refl _ _)⟩
    case round =>
      obtain ⟨ds, rs, rs', rfl, E1, E2, hd1, hd2, hB⟩ := hrel
      cases rs with
      | nil =>
        cases rs' with
        | cons _ _ => simp at hd2
        | nil =>
          simp only [List.length_nil] at hd1
          have hge : ¬ ds.length < xs.length := by omega
          have EQ := Lib.hid (eqB_true (show xs = ys by rw [E1.out, E2.out]))
          go_wp2_with fail
          go_ret
          exact ⟨ret_bool EQ.out, hB.out⟩
      | cons y1 rs =>
        cases rs' with
        | nil => simp at hd2
        | cons y2 rs' =>
          simp only [List.length_cons] at hd1 hd2
          have hlt1 : ds.length < xs.length := by omega
          have hlt2 : ds.length < ys.length := by have := HL.out; omega
          rcases S1.out.2 with h30 | ⟨b1, o1, rfl, hb1, ha1⟩
          · omega
          rcases S2.out.2 with h30 | ⟨b2, o2, rfl, hb2, ha2⟩
          · omega
          rw [E1.out] at ha1
          rw [E2.out] at ha2
          obtain ⟨s1, c1, ok1⟩ := St.At.openP (St.At.later ((hB.out).mono hN) (Nat.le_trans hN hB.out.size) y1 b1 _ hb1 (Row.drop _ _ _ ha1).1)
          obtain ⟨s2, c2, ok2⟩ := St.At.openP (St.At.later ((hB.out).mono hN) (Nat.le_trans hN hB.out.size) y2 b2 _ hb2 (Row.drop _ _ _ ha2).1)
          have HC := Lib.hid (fun (w1 : World) (hb : Below wr.heap.size wr w1) => HCB.out y1 (by rw [E1.out]; simp) y2 (by rw [E2.out]; simp) s1 s2 w1 (hB.out.trans (hb.mono hB.out.size)) (St.OkP.later ok1 hb hb.size) (St.OkP.later ok2 hb hb.size))
          have EQ := Lib.hid (show (eqB y1 y2 = true → y1 = y2) ∧ (eqB y1 y2 = false → ¬ xs = ys) from ⟨eqB_of_true, fun h e => by
              rw [E1.out, E2.out] at e
              have := List.append_cancel_left e
              injection this with e6 _
              exact eqB_of_false h e6⟩)
          obtain ⟨A1, hA1⟩ : ∃ A1, y1.cells s1 = A1 := ⟨_, rfl⟩
          obtain ⟨A2, hA2⟩ : ∃ A2, y2.cells s2 = A2 := ⟨_, rfl⟩
          have HZ1 := Lib.hid (show A1.size = 16 by rw [← hA1]; rfl)
          have HZ2 := Lib.hid (show A2.size = 16 by rw [← hA2]; rfl)
          have HO1 := Lib.hid (show A1.all (·.oneCell') = true by rw [← hA1]; exact oneSt _ _)
          have HO2 := Lib.hid (show A2.all (·.oneCell') = true by rw [← hA2]; exact oneSt _ _)
          have r1 : wr.rangeAt b1 (o1 + ds.length * 16) A1.toList := fun j v hv => c1 j v (by rw [hA1, ← Array.getElem?_toList]; exact hv)
          have r2 : wr.rangeAt b2 (o2 + ds.length * 16) A2.toList := fun j v hv => c2 j v (by rw [hA2, ← Array.getElem?_toList]; exact hv)
          have HB2 := Lib.hid (((Below.refl _ wr).alloc (Nat.le_refl _) (Obj.cells A1 49)).alloc (by simp) (Obj.cells A2 49))
          have F1 := Lib.hid r1
          have F2 := Lib.hid (range_later r2 (show b2 < wr.heap.size by have := hB.out.size; omega) ((Below.refl _ wr).alloc (Nat.le_refl _) (Obj.cells A1 49)))
          have F3 := Lib.hid (range_later (range_new wr A1 49) (show wr.heap.size < (wr.alloc (Obj.cells A1 49)).heap.size by simp) ((Below.refl _ _).alloc (Nat.le_refl _) (Obj.cells A2 49)))
          have F4 := Lib.hid (show ((wr.alloc (Obj.cells A1 49)).alloc (Obj.cells A2 49)).rangeAt (wr.heap.size + 1) 0 A2.toList by have := range_new (wr.alloc (Obj.cells A1 49)) A2 49; simpa using this)
          have HI1 := Lib.hid (infoStP.trans (by rw [HZ1.out]) : (Try.prog.info? 49).map (·.size) = some A1.size)
          have HI2 := Lib.hid (infoStP.trans (by rw [HZ2.out]) : (Try.prog.info? 49).map (·.size) = some A2.size)
          unfold St.valP St.val at HC
          rw [hA1, hA2] at HC
          clear c1 c2 ok1 ok2 ha1 ha2 r1 r2 hA1 hA2
          generalize eqB y1 y2 = v at HC EQ
          cases v with
          | true =>
            have hy := Lib.hid (EQ.out.1 rfl)
            clear EQ
            go_wp2_with (first | (refine wpl_load rfl 49 _ rfl b1 (o1 + ds.length * 16) rfl A1 _ F1.out Try.underlying49 rfl HI1.out ?_) | (refine wpl_load rfl 49 _ rfl b2 (o2 + ds.length * 16) rfl A2 _ F2.out Try.underlying49 rfl HI2.out ?_) | (refine wpl_load rfl 49 _ rfl wr.heap.size 0 rfl A1 _ F3.out Try.underlying49 rfl HI1.out ?_) | (refine wpl_load rfl 49 _ rfl (wr.heap.size + 1) 0 rfl A2 _ F4.out Try.underlying49 rfl HI2.out ?_) | (refine wpl_store_new rfl 49 _ _ rfl _ A1 _ rfl rfl (by rw [HZ1.out]; rfl) HI1.out HO1.out ?_) | (refine wpl_store_new rfl 49 _ _ rfl _ A2 _ (by show Value.pointer (some ⟨wr.heap.size + 1, 0, none⟩) = _; simp) rfl (by rw [HZ2.out]; rfl) HI2.out HO2.out ?_))
            refine (HC.out _ HB2.out).mono ?_
            rintro e w1 ⟨rfl, hB1⟩
            have HB3 := Lib.hid (hB.out.trans ((HB2.out.trans (hB1.mono HB2.out.size)).mono hB.out.size))
            clear hB1
            go_wp2_with fail
            go_roundw
            case rel => exact ⟨ds ++ [y1], rs, rs', by rw [List.length_append]; go_num, Lib.hid (by rw [E1.out]; simp), Lib.hid (by rw [E2.out, hy.out]; simp), by simp; omega, by omega, HB3⟩
            case measure => simp [intOf]; omega
          | false =>
            have hy := Lib.hid (eqB_false (EQ.out.2 rfl))
            clear EQ
            go_wp2_with (first | (refine wpl_load rfl 49 _ rfl b1 (o1 + ds.length * 16) rfl A1 _ F1.out Try.underlying49 rfl HI1.out ?_) | (refine wpl_load rfl 49 _ rfl b2 (o2 + ds.length * 16) rfl A2 _ F2.out Try.underlying49 rfl HI2.out ?_) | (refine wpl_load rfl 49 _ rfl wr.heap.size 0 rfl A1 _ F3.out Try.underlying49 rfl HI1.out ?_) | (refine wpl_load rfl 49 _ rfl (wr.heap.size + 1) 0 rfl A2 _ F4.out Try.underlying49 rfl HI2.out ?_) | (refine wpl_store_new rfl 49 _ _ rfl _ A1 _ rfl rfl (by rw [HZ1.out]; rfl) HI1.out HO1.out ?_) | (refine wpl_store_new rfl 49 _ _ rfl _ A2 _ (by show Value.pointer (some ⟨wr.heap.size + 1, 0, none⟩) = _; simp) rfl (by rw [HZ2.out]; rfl) HI2.out HO2.out ?_))
            refine (HC.out _ HB2.out).mono ?_
            rintro e w1 ⟨rfl, hB1⟩
            have HB3 := Lib.hid (hB.out.trans ((HB2.out.trans (hB1.mono HB2.out.size)).mono hB.out.size))
            clear hB1
            go_wp2_with fail
            go_ret
            exact ⟨ret_bool hy.out, HB3.out⟩
  · have HB := Lib.hid (eqB_false (show ¬ xs = ys by intro e; exact hl (by rw [e])))
    have hl' : ((xs.length : Int) != (ys.length : Int)) = true := by simp; omega
    clear hl
    go_enter Try.func37, Try.ntmps37
    go_wp2_with fail
    go_ret
    exact ⟨ret_bool HB.out, Below.refl _ _⟩

def PSS (n : Nat) : Prop := ∀ x y : St, x.size < n → ∀ (s t : StP) (N : Nat) (w : World), x.Ok w N s → y.Ok w N t → N ≤ w.heap.size →
    Calls Try.prog 38 #[x.val s, y.val t] w fun e w' => e = .returned (.bool (eqB x y)) ∧ Below w.heap.size w w'
set_option maxHeartbeats 1600000 in
theorem pss_args (n : Nat) (ih : PSS n) (l m : Sts) (hs : l.size ≤ n) (p q : Option Addr) (c d N : Nat) (w : World) (h1 : l.In w N p) (h2 : m.In w N q) (hN : N ≤ w.heap.size) :
    Calls Try.prog 37 #[.slice p l.len c, .slice q m.len d, .func (Fn.func 38) #[] #[]] w fun e w' => e = .returned (.bool (eqB l m)) ∧ Below w.heap.size w w' := by
  have := eqfSt l.toL m.toL p q c d N w (Sts.rowIn h1) (Sts.rowIn h2) hN (fun y1 g1 y2 _ s1 s2 w1 hb o1 o2 => ih y1 y2 (by have := Sts.toL_size g1; omega) s1 s2 w1.heap.size w1 o1 o2 (Nat.le_refl _))
  rw [← Sts.toL_len, ← Sts.toL_len, eqB_sts] at this
  exact this
end Go.Proofs.Ytldjcnpkgbdlpaa
