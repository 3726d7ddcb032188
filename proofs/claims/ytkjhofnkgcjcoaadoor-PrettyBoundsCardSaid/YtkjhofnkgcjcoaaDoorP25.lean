/- Which statements can be told, the program's own: lists, and what a statement has besides. -/
import Derived.Test.YtkjhofnkgcjcoaaDoorP10
import Derived.Test.YtkjhofnkgcjcoaaDoorP24
import Derived.Test.YtkjhofnkgcjcoaaDoorP12
import Derived.Laws.CopyRow
namespace Go.Proofs.YtkjhofnkgcjcoaaDoor
open Go.RowKit

/-- cells written into a row -/
def putA (cur : Array Value) (o : Nat) (vs : Array Value) : Array Value := (cur.toList.take o ++ vs.toList ++ cur.toList.drop (o + vs.size)).toArray
theorem but_row (w : World) (g : Nat) (cs : Array Value) : But g w (w.setRow g cs) :=
  ⟨rfl, rfl, rfl, by simp [World.setRow], fun k _ hk => setRow_other w g k _ (fun e => hk (by omega))⟩
/-- a store into a block of one's own: what lies there behind it, all else as it was -/
theorem wpl_put {P : Program} {ops : Array Oper} {rest : List Oper} {op : Oper} {a : Act} {w : World} {Q : Exit → Act → World → Prop} (hgd : op.guard = none) (ty : TypeId) (x y : Operand) (ho : op.op = .store ty x y) (hd : op.dst = none)
    (g o : Nat) (v : Value) (hx : a.eval x = .pointer (some ⟨g, o, none⟩)) (hy : a.eval y = v) (cur : Array Value) (t : TypeId) (hg : w.heap[g]? = some (.cells cur t (0, 0)))
    (hl : o + v.cells.size ≤ cur.size) (hi : (P.info? ty).map (·.size) = some v.cells.size) (h1 : v.cells.toList.all (·.oneCell') = true)
    (h : ∀ w', w'.heap[g]? = some (.cells (putA cur o v.cells) t (0, 0)) → But g w w' → wpList P ops Q rest a w') : wpList P ops Q (op :: rest) a w :=
  wpList_plain hgd fun _ hK => by
    have hs : (storeVar ty ⟨g, o, none⟩ v).run P w = .ok () (w.setRow g (putA cur o v.cells)) := by
      have := run_storeCells_at (P := P) g o t v.cells.toList 0 cur w hg (by simp; omega) (fun u hu => (List.all_eq_true.1 h1) u hu)
      cases hq : P.info? ty with
      | none => simp [hq] at hi
      | some i =>
        have hz : v.cells.size = i.size := by simp [hq] at hi; omega
        simp only [Nat.add_zero, Array.length_toList] at this
        simp [storeVar, sizeOf, typeInfo, hq, hz, this, putA]
    unfold Oper.wp execOp
    simp only [ho, hx, hy, Instr.storeAt, Instr.sureAddr, Sem.run_bind, Sem.run_pure, Result.andThen_ok, hs]
    refine hK _ _ ?_
    rw [hd]
    exact h _ (setRow_heap w g _ _ t _ hg) (but_row w g _)
/-- a whole struct loaded by a guarded operation that is wanted -/
theorem wpl_load_if {P : Program} {ops : Array Oper} {rest : List Oper} {op : Oper} {a : Act} {w : World} {Q : Exit → Act → World → Prop} (hw : Region.wanted op (yielded ops a.tmps) = true) (ty : TypeId) (x : Operand) (ho : op.op = .load ty x)
    (b o : Nat) (hx : a.eval x = .pointer (some ⟨b, o, none⟩)) (A : Array Value) (d : TypeDesc) (hc : w.rangeAt b o A.toList)
    (hu : P.underlying ty = some d) (hd : d.isRow = true) (hi : (P.info? ty).map (·.size) = some A.size)
    (h : wpList P ops Q rest (a.put op.dst (.agg A)) w) : wpList P ops Q (op :: rest) a w := by
  refine wpList_step fun K hK => ?_
  rw [if_pos hw]
  refine wp_load_mid ty x ho b o hx A.toList d hc hu hd (by rw [hi]; simp) ?_
  simp only [Array.toArray_toList]
  exact hK _ _ h
theorem But.below {g B : Nat} {w w1 w2 : World} (h : But g w1 w2) (hB : Below B w w1) (hg : B ≤ g) (hz : B ≤ w1.heap.size) : Below B w w2 :=
  hB.trans ⟨h.os, h.tape, h.output, h.size, fun k hk => by
    exact h.block k (by omega) (by omega)⟩
theorem range_block {w : World} {g : Nat} {A : Array Value} {t : TypeId} {fz : Nat × Nat} (h : w.heap[g]? = some (.cells A t fz)) : w.rangeAt g 0 A.toList := by
  intro j v hv
  rw [Nat.zero_add]
  rw [← Array.getElem?_toList] at *
  simp [World.cell?, h, ← Array.getElem?_toList, hv]
theorem cell_block {w : World} {g : Nat} {A : Array Value} {t : TypeId} {fz : Nat × Nat} (h : w.heap[g]? = some (.cells A t fz)) {j : Nat} {v : Value} (hv : A[j]? = some v) : w.cell? ⟨g, j, none⟩ = some v := by
  simp [World.cell?, h, hv]

set_option maxHeartbeats 1600000 in
theorem everyStr_any (ns : List (List UInt8)) (p : Option Addr) (c N : Nat) (w : World) (h : RowIn N (StrAt w) 1 ns p) :
    Calls Tryd.prog 53 #[.slice p ns.length c, .func (.func 36) #[] #[]] w fun e w' => e = .returned (.bool (namesB ns)) ∧ w = w' := by
  rcases h with ⟨hm, h0 | ⟨b, o, rfl, hb, ha⟩⟩
  · go_enter Tryd.func53, Tryd.ntmps53
    go_wp2_with fail
    go_loopw [9] (fun i wr => i = .int .i64 0 ∧ wr = w) (fun _ _ => 0)
    case atStart => exact ⟨rfl, rfl⟩
    case round =>
      obtain ⟨rfl, rfl⟩ := hrel
      have hge : ¬ 0 < ns.length := by omega
      go_wp2_with fail
      go_ret
      exact ⟨ret_bool (by cases ns with | nil => rfl | cons => simp at h0), rfl⟩
  · have HA := Lib.hid ha
    clear ha
    go_enter Tryd.func53, Tryd.ntmps53
    go_wp2_with fail
    go_loopw [9] (fun i wr => ∃ (k : Nat) (r : List (List UInt8)), i = .int .i64 k ∧ k + r.length = ns.length ∧ Hid (Row (StrAt w) 1 r b (o + k * 1)) ∧ Hid (namesB ns = namesB r) ∧ wr = w) (fun i _ => ns.length - (intOf i).toNat)
    case atStart => exact ⟨0, ns, rfl, by omega, Lib.hid (by simpa using HA.out), Lib.hid rfl, rfl⟩
    case round =>
      obtain ⟨k, r, rfl, hk, hr, hE, rfl⟩ := hrel
      cases r with
      | nil =>
        simp only [List.length_nil] at hk
        have hge : ¬ k < ns.length := by omega
        go_wp2_with fail
        go_ret
        exact ⟨ret_bool (by rw [hE.out]; rfl), rfl⟩
      | cons x r =>
        obtain ⟨hx, hr2⟩ := hr.out
        have hr3 := Lib.hid (show Row (StrAt wr) 1 r b (o + (k + 1) * 1) by rw [show o + (k + 1) * 1 = o + k * 1 + 1 by omega]; exact hr2)
        simp only [List.length_cons] at hk
        have hlt : k < ns.length := by omega
        have hx1 : wr.cell? ⟨b, o + k * 1, none⟩ = some (.string (str x)) := hx
        have hx2 : wr.cell? ⟨b, o + k, none⟩ = some (.string (str x)) := by rw [Nat.mul_one] at hx1; exact hx1
        have HNm := Lib.hid (fun w => name_any (str x) w)
        rw [str_data] at HNm
        have HE := Lib.hid (show namesB ns = (nameB x && namesB r) by rw [hE.out]; simp [namesB])
        clear hr hx hr2 hE
        obtain ⟨m, hm'⟩ : ∃ m, nameB x = m := ⟨_, rfl⟩
        rw [hm'] at HE HNm
        cases m
        · go_wp2_with fail
          refine (HNm.out _).mono ?_
          rintro e w2 ⟨rfl, rfl⟩
          go_wp2_with fail
          go_ret
          exact ⟨ret_bool (by rw [HE.out]; rfl), rfl⟩
        · go_wp2_with fail
          refine (HNm.out _).mono ?_
          rintro e w2 ⟨rfl, rfl⟩
          go_wp2_with fail
          go_roundw
          case rel => exact ⟨k + 1, r, by go_num, by omega, hr3, Lib.hid (by rw [HE.out]; simp), trivial⟩
          case measure => simp [intOf]; omega

theorem everyEx_any (l : Exs) (p : Option Addr) (c N : Nat) (w : World) (hN : N ≤ w.heap.size) (h : l.In w N p) :
    Calls Tryd.prog 35 #[.slice p l.len c, .func (.func 15) #[] #[]] w fun e w' => e = .returned (.bool l.may) ∧ Below w.heap.size w w' :=
  every_step _ (fun x _ p c N w hN hx => mayExpr_any x p c N w hN hx) l (Nat.le_refl _) p c N w hN h

def MayS (n : Nat) : Prop := ∀ (x : St), x.size < n → ∀ (s : StP) (N : Nat) (w : World), N ≤ w.heap.size → x.Ok w N s →
    Calls Tryd.prog 72 #[x.val s] w fun e w' => e = .returned (.bool x.may) ∧ Below w.heap.size w w'
set_option maxRecDepth 100000 in
set_option maxHeartbeats 3200000 in
theorem everyS_step (n : Nat) (ih : MayS n) (l : Sts) (hl : l.size ≤ n) (p : Option Addr) (c N : Nat) (w : World) (hN : N ≤ w.heap.size) (h : l.In w N p) :
    Calls Tryd.prog 71 #[.slice p l.len c, .func (.func 72) #[] #[]] w fun e w' => e = .returned (.bool l.may) ∧ Below w.heap.size w w' := by
  have IH := Lib.hid ih
  have S1 := Lib.hid h
  have hm1 := h.1
  have HNN := Lib.hid hN
  clear ih h hN
  go_enter Tryd.func71, Tryd.ntmps71
  go_wp2_with fail
  go_loopw [9] (fun i wr => ∃ (k : Nat) (r : Sts), i = .int .i64 k ∧ k + r.len = l.len ∧ r.size ≤ n ∧ Hid (∀ b o, p = some ⟨b, o, none⟩ → l.At w N b o → r.At w N b (o + k * 16)) ∧ Hid (l.may = r.may) ∧ Hid (Below w.heap.size w wr)) (fun i _ => l.len - (intOf i).toNat)
  case atStart => exact ⟨0, l, rfl, by omega, hl, Lib.hid fun b o _ h => by rw [Nat.zero_mul]; exact h, Lib.hid rfl, Lib.hid (Below.refl _ _)⟩
  case round =>
    obtain ⟨k, r, rfl, hk, hrs, hat, hE, hB⟩ := hrel
    cases r with
    | nil =>
      simp only [Sts.len] at hk
      have hge : ¬ k < l.len := by omega
      go_wp2_with fail
      go_ret
      exact ⟨ret_bool (by rw [hE.out]; rfl), hB.out⟩
    | cons x r =>
      simp only [Sts.len] at hk
      simp only [Sts.size] at hrs
      have hlt : k < l.len := by omega
      obtain ⟨wo, rfl⟩ : ∃ wo : World, wo = wr := ⟨_, rfl⟩
      rcases S1.out.2 with h30 | ⟨b, o, rfl, hb, ha⟩
      · omega
      obtain ⟨hx, hr⟩ := hat.out b o rfl ha
      have HR := Lib.hid hr
      obtain ⟨s, c1, ok1⟩ := St.At.openP (St.At.later (hB.out.mono HNN.out) (Nat.le_trans HNN.out hB.out.size) x b _ hb hx)
      have hbl : b < wo.heap.size := by have := hB.out.size; have := HNN.out; omega
      obtain ⟨A1, hA1⟩ : ∃ A1, x.cells s = A1 := ⟨_, rfl⟩
      have HZ1 := Lib.hid (show A1.size = 16 by rw [← hA1]; rfl)
      have HO1 := Lib.hid (show A1.all (·.oneCell') = true by rw [← hA1]; exact oneSt _ _)
      have F1 := Lib.hid (show wo.rangeAt b (o + k * 16) A1.toList from fun j z hz => c1 j z (by rw [hA1, ← Array.getElem?_toList]; exact hz))
      have HI1 := Lib.hid (infoSt.trans (by rw [HZ1.out]) : (Tryd.prog.info? 35).map (·.size) = some A1.size)
      obtain ⟨W1, hW1⟩ : ∃ W1, wo.alloc (Obj.cells A1 35) = W1 := ⟨_, rfl⟩
      have HW1 := Lib.hid (show Below wo.heap.size wo W1 by rw [← hW1]; exact (Below.refl _ wo).alloc (Nat.le_refl _) _)
      have F2 := Lib.hid (show W1.rangeAt wo.heap.size 0 A1.toList by rw [← hW1]; exact range_new wo A1 _)
      have HC := Lib.hid (IH.out x (by omega) s wo.heap.size W1 HW1.out.size (ok1.later HW1.out (Nat.le_refl _)))
      unfold St.val at HC
      rw [hA1] at HC
      have HE := Lib.hid (show l.may = (x.may && r.may) by rw [hE.out, Sts.may])
      obtain ⟨m, hm'⟩ : ∃ m, x.may = m := ⟨_, rfl⟩
      rw [hm'] at HE HC
      clear ok1 hA1 c1 hx hr ha hE hm'
      go_wp2_with (first | (refine wpl_load rfl 35 _ rfl b (o + k * 16) rfl A1 _ F1.out Tryd.underlying35 rfl HI1.out ?_) | (refine wpl_store_new rfl 35 _ _ rfl _ A1 _ rfl rfl (by rw [HZ1.out]; rfl) HI1.out HO1.out ?_; rw [hW1]) | (refine wpl_load rfl 35 _ rfl wo.heap.size 0 rfl A1 _ F2.out Tryd.underlying35 rfl HI1.out ?_))
      refine HC.out.mono ?_
      rintro e w2 ⟨rfl, hB2⟩
      have HB3 := Lib.hid (hB.out.trans ((HW1.out.trans (hB2.mono HW1.out.size)).mono hB.out.size))
      clear hB2
      cases m
      · go_wp2_with fail
        go_ret
        exact ⟨ret_bool (by rw [HE.out]; rfl), HB3.out⟩
      · go_wp2_with fail
        go_roundw
        case rel => exact ⟨k + 1, r, by go_num, by omega, by omega, Lib.hid fun b' o' e _ => by cases e; rw [show o + (k + 1) * 16 = o + k * 16 + 16 by omega]; exact HR.out, Lib.hid (by rw [HE.out]; simp), HB3⟩
        case measure => simp [intOf]; omega
end Go.Proofs.YtkjhofnkgcjcoaaDoor
