/- Which programs can be told: the program's May. -/
import Derived.Test.YtkjhofnkgcjcoaaDoorP31
import Derived.Test.YtkjhofnkgcjcoaaDoorP32
namespace Go.Proofs.YtkjhofnkgcjcoaaDoor
open Go.RowKit

def Vr.val (v : Vr) : Value := .agg #[.string (str v.name), .int .i64 v.kind, .int .i64 v.size, .bool v.secret]
def Rgn.val (r : Rgn) : Value := .agg #[.string (str r.name), .int .i64 r.addr, .int .i64 r.size, .bool r.secret]
set_option maxHeartbeats 1600000 in
theorem mayRegion_any (r : Rgn) (w : World) : Calls Tryd.prog 27 #[r.val] w fun e w' => e = .returned (.bool r.may) ∧ Below w.heap.size w w' := by
  obtain ⟨nm, ad, sz, sc⟩ := r
  have HNm := Lib.hid (fun w => name_any (str nm) w)
  rw [str_data] at HNm
  have HB := Lib.hid ((Below.refl w.heap.size w).alloc (Nat.le_refl _) (.cells #[.string (str nm), .int .i64 ad, .int .i64 sz, .bool sc] 81 (0, 0)))
  unfold Rgn.val Rgn.may
  simp only []
  generalize nameB nm = z at *
  go_enter Tryd.func27, Tryd.ntmps27
  go_wp2_with fail
  refine (HNm.out _).mono ?_
  rintro e w2 ⟨rfl, rfl⟩
  cases z with
  | false =>
    go_wp2_with fail
    go_ret
    exact ⟨by simp, HB.out⟩
  | true =>
    by_cases h1 : 0 ≤ ad
    · by_cases h2 : 0 ≤ sz
      · go_wp2_with fail
        go_ret
        exact ⟨by simp [h1, h2], HB.out⟩
      · go_wp2_with fail
        go_ret
        exact ⟨by simp [h1], HB.out⟩
    · go_wp2_with fail
      go_ret
      exact ⟨by simp; omega, HB.out⟩
set_option maxHeartbeats 1600000 in
theorem mayParam_any (v : Vr) (w : World) : Calls Tryd.prog 51 #[v.val] w fun e w' => e = .returned (.bool v.mayP) ∧ Below w.heap.size w w' := by
  obtain ⟨nm, kd, sz, sc⟩ := v
  have HNm := Lib.hid (fun w => name_any (str nm) w)
  rw [str_data] at HNm
  have HB := Lib.hid ((Below.refl w.heap.size w).alloc (Nat.le_refl _) (.cells #[.string (str nm), .int .i64 kd, .int .i64 sz, .bool sc] 48 (0, 0)))
  unfold Vr.val Vr.mayP
  simp only []
  generalize nameB nm = z at *
  go_enter Tryd.func51, Tryd.ntmps51
  go_wp2_with fail
  refine (HNm.out _).mono ?_
  rintro e w2 ⟨rfl, rfl⟩
  cases z with
  | false =>
    go_wp2_with fail
    go_ret
    exact ⟨by simp, HB.out⟩
  | true =>
    by_cases h1 : kd = 1
    · subst h1
      by_cases h2 : sz = 0
      · subst h2
        go_wp2_with fail
        go_ret
        exact ⟨by simp, HB.out⟩
      · have f2 : (sz == 0) = false := by simp; exact h2
        go_wp2_with fail
        go_ret
        exact ⟨by simp, HB.out⟩
    · have f1 : (kd == 1) = false := by simp; exact h1
      go_wp2_with fail
      go_ret
      exact ⟨by simp [h1], HB.out⟩
set_option maxHeartbeats 3200000 in
theorem mayVar_any (v : Vr) (w : World) : Calls Tryd.prog 52 #[v.val] w fun e w' => e = .returned (.bool v.may) ∧ Below w.heap.size w w' := by
  obtain ⟨nm, kd, sz, sc⟩ := v
  have HNm := Lib.hid (fun w => name_any (str nm) w)
  rw [str_data] at HNm
  obtain ⟨W1, hW1⟩ : ∃ W1, w.alloc (.cells #[.string (str nm), .int .i64 kd, .int .i64 sz, .bool sc] 48 (0, 0)) = W1 := ⟨_, rfl⟩
  have hB1 : Below w.heap.size w W1 := by rw [← hW1]; exact (Below.refl w.heap.size w).alloc (Nat.le_refl _) _
  have hk1 : W1.heap[w.heap.size]? = some (.cells #[.string (str nm), .int .i64 kd, .int .i64 sz, .bool sc] 48 (0, 0)) := by rw [← hW1]; exact heap_alloc_new w _
  have HK := Lib.hid hk1
  have HB := Lib.hid hB1
  have HP := Lib.hid (mayParam_any ⟨nm, kd, sz, sc⟩ W1)
  have c0 := cell_block hk1 (j := 0) (v := .string (str nm)) rfl
  have c1 := cell_block hk1 (j := 1) (v := .int .i64 kd) rfl
  have c2 := cell_block hk1 (j := 2) (v := .int .i64 sz) rfl
  have c3 := cell_block hk1 (j := 3) (v := .bool sc) rfl
  unfold Vr.val at HP ⊢
  unfold Vr.may
  simp only [] at HP ⊢
  clear hB1 hk1
  generalize (Vr.mk nm kd sz sc).mayP = zp at *
  generalize nameB nm = z at *
  by_cases h1 : kd = 1
  · subst h1
    rw [if_pos rfl]
    go_enter Tryd.func52, Tryd.ntmps52
    go_wp2_with fail
    refine HP.out.mono ?_
    rintro e w2 ⟨rfl, hB2⟩
    have d3 := cell_block ((hB2.block _ (lt_of_block HK.out)).trans HK.out) (j := 3) (v := .bool sc) rfl
    have HB2 := Lib.hid (HB.out.trans (hB2.mono HB.out.size))
    clear hB2 c0 c1 c2 c3
    cases zp with
    | false =>
      go_wp2_with fail
      go_ret
      exact ⟨by simp, HB2.out⟩
    | true =>
      go_wp2_with fail
      go_ret
      exact ⟨by simp, HB2.out⟩
  · have f1 : (kd == 1) = false := by simp; exact h1
    rw [if_neg h1]
    by_cases h23 : kd = 2 ∨ kd = 3
    · rw [if_pos h23]
      rcases h23 with rfl | rfl
      · go_enter Tryd.func52, Tryd.ntmps52
        go_wp2_with fail
        refine (HNm.out _).mono ?_
        rintro e w2 ⟨rfl, rfl⟩
        cases z with
        | false =>
          go_wp2_with fail
          go_ret
          exact ⟨by simp, HB.out⟩
        | true =>
          by_cases h2 : 0 ≤ sz
          · go_wp2_with fail
            go_ret
            exact ⟨by simp [h2], HB.out⟩
          · go_wp2_with fail
            go_ret
            exact ⟨by simp, HB.out⟩
      · go_enter Tryd.func52, Tryd.ntmps52
        go_wp2_with fail
        refine (HNm.out _).mono ?_
        rintro e w2 ⟨rfl, rfl⟩
        cases z with
        | false =>
          go_wp2_with fail
          go_ret
          exact ⟨by simp, HB.out⟩
        | true =>
          by_cases h2 : 0 ≤ sz
          · go_wp2_with fail
            go_ret
            exact ⟨by simp [h2], HB.out⟩
          · go_wp2_with fail
            go_ret
            exact ⟨by simp, HB.out⟩
    · have f2 : (kd == 2) = false := by simp; omega
      have f3 : (kd == 3) = false := by simp; omega
      rw [if_neg h23]
      go_enter Tryd.func52, Tryd.ntmps52
      go_wp2_with fail
      go_ret
      exact ⟨rfl, HB.out⟩

set_option maxHeartbeats 3200000 in
theorem everyRg_any (l : List Rgn) (p : Option Addr) (c N : Nat) (w : World) (hN : N ≤ w.heap.size) (h : RowIn N (Rgn.At w) 4 l p) :
    Calls Tryd.prog 26 #[.slice p l.length c, .func (.func 27) #[] #[]] w fun e w' => e = .returned (.bool (l.all Rgn.may)) ∧ Below w.heap.size w w' := by
  have S1 := Lib.hid h
  have hm1 := h.1
  have HNN := Lib.hid hN
  clear h hN
  go_enter Tryd.func26, Tryd.ntmps26
  go_wp2_with fail
  go_loopw [9] (fun i wr => ∃ (k : Nat) (r : List Rgn), i = .int .i64 k ∧ k + r.length = l.length ∧ Hid (∀ b o, p = some ⟨b, o, none⟩ → Row (Rgn.At w) 4 l b o → Row (Rgn.At w) 4 r b (o + k * 4)) ∧ Hid (l.all Rgn.may = r.all Rgn.may) ∧ Hid (Below w.heap.size w wr)) (fun i _ => l.length - (intOf i).toNat)
  case atStart => exact ⟨0, l, rfl, by omega, Lib.hid fun b o _ h => by rw [Nat.zero_mul]; exact h, Lib.hid rfl, Lib.hid (Below.refl _ _)⟩
  case round =>
    obtain ⟨k, r, rfl, hk, hat, hE, hB⟩ := hrel
    cases r with
    | nil =>
      simp only [List.length_nil] at hk
      have hge : ¬ k < l.length := by omega
      go_wp2_with fail
      go_ret
      exact ⟨ret_bool (by rw [hE.out]; rfl), hB.out⟩
    | cons x r =>
      simp only [List.length_cons] at hk
      have hlt : k < l.length := by omega
      obtain ⟨wo, rfl⟩ : ∃ wo : World, wo = wr := ⟨_, rfl⟩
      rcases S1.out.2 with h30 | ⟨b, o, rfl, hb, ha⟩
      · omega
      obtain ⟨hx, hr⟩ := hat.out b o rfl ha
      have HR := Lib.hid hr
      have hx' := Rgn.At.later (hB.out.mono HNN.out) x b _ hb hx
      obtain ⟨g0, g1, g2, g3⟩ := hx'
      have HC := Lib.hid (mayRegion_any x (wo.alloc (.cells #[.string (str x.name), .int .i64 x.addr, .int .i64 x.size, .bool x.secret] 81)))
      unfold Rgn.val at HC
      have HE := Lib.hid (show l.all Rgn.may = (Rgn.may x && r.all Rgn.may) by rw [hE.out, List.all_cons])
      obtain ⟨m, hm'⟩ : ∃ m, Rgn.may x = m := ⟨_, rfl⟩
      rw [hm'] at HE HC
      clear hx hr ha hE hm'
      go_wp2_with fail
      refine HC.out.mono ?_
      rintro e w2 ⟨rfl, hB2⟩
      have HB3 := Lib.hid (hB.out.trans ((((Below.refl _ wo).alloc (Nat.le_refl _) (.cells #[.string (str x.name), .int .i64 x.addr, .int .i64 x.size, .bool x.secret] 81)).trans (hB2.mono (by simp))).mono hB.out.size))
      clear hB2
      cases m
      · go_wp2_with fail
        go_ret
        exact ⟨ret_bool (by rw [HE.out]; rfl), HB3.out⟩
      · go_wp2_with fail
        go_roundw
        case rel => exact ⟨k + 1, r, by go_num, by omega, Lib.hid fun b' o' e _ => by cases e; rw [show o + (k + 1) * 4 = o + k * 4 + 4 by omega]; exact HR.out, Lib.hid (by rw [HE.out]; simp), HB3⟩
        case measure => simp [intOf]; omega
set_option maxHeartbeats 3200000 in
theorem everyPa_any (l : List Vr) (p : Option Addr) (c N : Nat) (w : World) (hN : N ≤ w.heap.size) (h : RowIn N (Vr.At w) 4 l p) :
    Calls Tryd.prog 50 #[.slice p l.length c, .func (.func 51) #[] #[]] w fun e w' => e = .returned (.bool (l.all Vr.mayP)) ∧ Below w.heap.size w w' := by
  have S1 := Lib.hid h
  have hm1 := h.1
  have HNN := Lib.hid hN
  clear h hN
  go_enter Tryd.func50, Tryd.ntmps50
  go_wp2_with fail
  go_loopw [9] (fun i wr => ∃ (k : Nat) (r : List Vr), i = .int .i64 k ∧ k + r.length = l.length ∧ Hid (∀ b o, p = some ⟨b, o, none⟩ → Row (Vr.At w) 4 l b o → Row (Vr.At w) 4 r b (o + k * 4)) ∧ Hid (l.all Vr.mayP = r.all Vr.mayP) ∧ Hid (Below w.heap.size w wr)) (fun i _ => l.length - (intOf i).toNat)
  case atStart => exact ⟨0, l, rfl, by omega, Lib.hid fun b o _ h => by rw [Nat.zero_mul]; exact h, Lib.hid rfl, Lib.hid (Below.refl _ _)⟩
  case round =>
    obtain ⟨k, r, rfl, hk, hat, hE, hB⟩ := hrel
    cases r with
    | nil =>
      simp only [List.length_nil] at hk
      have hge : ¬ k < l.length := by omega
      go_wp2_with fail
      go_ret
      exact ⟨ret_bool (by rw [hE.out]; rfl), hB.out⟩
    | cons x r =>
      simp only [List.length_cons] at hk
      have hlt : k < l.length := by omega
      obtain ⟨wo, rfl⟩ : ∃ wo : World, wo = wr := ⟨_, rfl⟩
      rcases S1.out.2 with h30 | ⟨b, o, rfl, hb, ha⟩
      · omega
      obtain ⟨hx, hr⟩ := hat.out b o rfl ha
      have HR := Lib.hid hr
      have hx' := Vr.At.later (hB.out.mono HNN.out) x b _ hb hx
      obtain ⟨g0, g1, g2, g3⟩ := hx'
      have HC := Lib.hid (mayParam_any x (wo.alloc (.cells #[.string (str x.name), .int .i64 x.kind, .int .i64 x.size, .bool x.secret] 48)))
      unfold Vr.val at HC
      have HE := Lib.hid (show l.all Vr.mayP = (Vr.mayP x && r.all Vr.mayP) by rw [hE.out, List.all_cons])
      obtain ⟨m, hm'⟩ : ∃ m, Vr.mayP x = m := ⟨_, rfl⟩
      rw [hm'] at HE HC
      clear hx hr ha hE hm'
      go_wp2_with fail
      refine HC.out.mono ?_
      rintro e w2 ⟨rfl, hB2⟩
      have HB3 := Lib.hid (hB.out.trans ((((Below.refl _ wo).alloc (Nat.le_refl _) (.cells #[.string (str x.name), .int .i64 x.kind, .int .i64 x.size, .bool x.secret] 48)).trans (hB2.mono (by simp))).mono hB.out.size))
      clear hB2
      cases m
      · go_wp2_with fail
        go_ret
        exact ⟨ret_bool (by rw [HE.out]; rfl), HB3.out⟩
      · go_wp2_with fail
        go_roundw
        case rel => exact ⟨k + 1, r, by go_num, by omega, Lib.hid fun b' o' e _ => by cases e; rw [show o + (k + 1) * 4 = o + k * 4 + 4 by omega]; exact HR.out, Lib.hid (by rw [HE.out]; simp), HB3⟩
        case measure => simp [intOf]; omega
set_option maxHeartbeats 3200000 in
theorem everyVr_any (l : List Vr) (p : Option Addr) (c N : Nat) (w : World) (hN : N ≤ w.heap.size) (h : RowIn N (Vr.At w) 4 l p) :
    Calls Tryd.prog 50 #[.slice p l.length c, .func (.func 52) #[] #[]] w fun e w' => e = .returned (.bool (l.all Vr.may)) ∧ Below w.heap.size w w' := by
  have S1 := Lib.hid h
  have hm1 := h.1
  have HNN := Lib.hid hN
  clear h hN
  go_enter Tryd.func50, Tryd.ntmps50
  go_wp2_with fail
  go_loopw [9] (fun i wr => ∃ (k : Nat) (r : List Vr), i = .int .i64 k ∧ k + r.length = l.length ∧ Hid (∀ b o, p = some ⟨b, o, none⟩ → Row (Vr.At w) 4 l b o → Row (Vr.At w) 4 r b (o + k * 4)) ∧ Hid (l.all Vr.may = r.all Vr.may) ∧ Hid (Below w.heap.size w wr)) (fun i _ => l.length - (intOf i).toNat)
  case atStart => exact ⟨0, l, rfl, by omega, Lib.hid fun b o _ h => by rw [Nat.zero_mul]; exact h, Lib.hid rfl, Lib.hid (Below.refl _ _)⟩
  case round =>
    obtain ⟨k, r, rfl, hk, hat, hE, hB⟩ := hrel
    cases r with
    | nil =>
      simp only [List.length_nil] at hk
      have hge : ¬ k < l.length := by omega
      go_wp2_with fail
      go_ret
      exact ⟨ret_bool (by rw [hE.out]; rfl), hB.out⟩
    | cons x r =>
      simp only [List.length_cons] at hk
      have hlt : k < l.length := by omega
      obtain ⟨wo, rfl⟩ : ∃ wo : World, wo = wr := ⟨_, rfl⟩
      rcases S1.out.2 with h30 | ⟨b, o, rfl, hb, ha⟩
      · omega
      obtain ⟨hx, hr⟩ := hat.out b o rfl ha
      have HR := Lib.hid hr
      have hx' := Vr.At.later (hB.out.mono HNN.out) x b _ hb hx
      obtain ⟨g0, g1, g2, g3⟩ := hx'
      have HC := Lib.hid (mayVar_any x (wo.alloc (.cells #[.string (str x.name), .int .i64 x.kind, .int .i64 x.size, .bool x.secret] 48)))
      unfold Vr.val at HC
      have HE := Lib.hid (show l.all Vr.may = (Vr.may x && r.all Vr.may) by rw [hE.out, List.all_cons])
      obtain ⟨m, hm'⟩ : ∃ m, Vr.may x = m := ⟨_, rfl⟩
      rw [hm'] at HE HC
      clear hx hr ha hE hm'
      go_wp2_with fail
      refine HC.out.mono ?_
      rintro e w2 ⟨rfl, hB2⟩
      have HB3 := Lib.hid (hB.out.trans ((((Below.refl _ wo).alloc (Nat.le_refl _) (.cells #[.string (str x.name), .int .i64 x.kind, .int .i64 x.size, .bool x.secret] 48)).trans (hB2.mono (by simp))).mono hB.out.size))
      clear hB2
      cases m
      · go_wp2_with fail
        go_ret
        exact ⟨ret_bool (by rw [HE.out]; rfl), HB3.out⟩
      · go_wp2_with fail
        go_roundw
        case rel => exact ⟨k + 1, r, by go_num, by omega, Lib.hid fun b' o' e _ => by cases e; rw [show o + (k + 1) * 4 = o + k * 4 + 4 by omega]; exact HR.out, Lib.hid (by rw [HE.out]; simp), HB3⟩
        case measure => simp [intOf]; omega
set_option maxHeartbeats 3200000 in
theorem mayFunc_any (f : Fnc) (hf6 : f.body.wt ≤ 1000000) (s : FncP) (N : Nat) (w : World) (hN : N ≤ w.heap.size) (h : f.Ok w N s) :
    Calls Tryd.prog 29 #[f.val s] w fun e w' => e = .returned (.bool f.may) ∧ Below w.heap.size w w' := by
  obtain ⟨nm, ps, vs, rs, bd⟩ := f
  have HNm := Lib.hid (fun w => name_any (str nm) w)
  rw [str_data] at HNm
  obtain ⟨W1, hW1⟩ : ∃ W1, w.alloc (.cells #[.string (str nm), .slice s.pp ps.length s.cp, .slice s.pv vs.length s.cv, .slice s.pr rs.length s.cr, .slice s.pb bd.len s.cb] 39 (0, 0)) = W1 := ⟨_, rfl⟩
  have hB1 : Below w.heap.size w W1 := by rw [← hW1]; exact (Below.refl w.heap.size w).alloc (Nat.le_refl _) _
  have HK := Lib.hid (show W1.heap[w.heap.size]? = some (.cells #[.string (str nm), .slice s.pp ps.length s.cp, .slice s.pv vs.length s.cv, .slice s.pr rs.length s.cr, .slice s.pb bd.len s.cb] 39 (0, 0)) by rw [← hW1]; exact heap_alloc_new w _)
  have HB := Lib.hid hB1
  have HPs := Lib.hid (fun (w1 : World) (hB : Below w.heap.size w w1) => everyPa_any ps s.pp s.cp N w1 (Nat.le_trans hN hB.size) (h.1.imp (Nat.le_refl N) (Vr.At.later (hB.mono hN))))
  have HVs := Lib.hid (fun (w1 : World) (hB : Below w.heap.size w w1) => everyVr_any vs s.pv s.cv N w1 (Nat.le_trans hN hB.size) (h.2.1.imp (Nat.le_refl N) (Vr.At.later (hB.mono hN))))
  have HRs := Lib.hid (fun (w1 : World) (hB : Below w.heap.size w w1) => everyStr_any rs s.pr s.cr N w1 (h.2.2.1.2.imp (Nat.le_refl N) (StrAt.later (hB.mono hN))))
  have HBd := Lib.hid (fun (w1 : World) (hB : Below w.heap.size w w1) => mayBody_any bd hf6 s.pb s.cb N w1 (Nat.le_trans hN hB.size) (h.2.2.2.later (hB.mono hN) (Nat.le_refl N)))
  unfold Fnc.val Fnc.cells Fnc.may
  simp only []
  clear hB1 h
  generalize nameB nm = z1 at *
  generalize ps.all Vr.mayP = z2 at *
  generalize vs.all Vr.may = z3 at *
  generalize namesB rs = z4 at *
  generalize bd.can = z5 at *
  have c0 := cell_block HK.out (j := 0) (v := .string (str nm)) rfl
  have c1 := cell_block HK.out (j := 1) (v := .slice s.pp ps.length s.cp) rfl
  go_enter Tryd.func29, Tryd.ntmps29
  go_wp2_with fail
  refine (HNm.out _).mono ?_
  rintro e w2 ⟨rfl, rfl⟩
  cases z1 with
  | false =>
    go_wp2_with fail
    go_ret
    exact ⟨by simp, HB.out⟩
  | true =>
  go_wp2_with fail
  refine (HPs.out _ HB.out).mono ?_
  rintro e w2 ⟨rfl, hB⟩
  replace HK := Lib.hid ((hB.block _ (lt_of_block HK.out)).trans HK.out)
  replace HB := Lib.hid (HB.out.trans (hB.mono HB.out.size))
  clear hB c0 c1
  cases z2 with
  | false =>
    go_wp2_with fail
    go_ret
    exact ⟨by simp, HB.out⟩
  | true =>
  have c2 := cell_block HK.out (j := 2) (v := .slice s.pv vs.length s.cv) rfl
  go_wp2_with fail
  refine (HVs.out _ HB.out).mono ?_
  rintro e w3 ⟨rfl, hB⟩
  replace HK := Lib.hid ((hB.block _ (lt_of_block HK.out)).trans HK.out)
  replace HB := Lib.hid (HB.out.trans (hB.mono HB.out.size))
  clear hB c2
  cases z3 with
  | false =>
    go_wp2_with fail
    go_ret
    exact ⟨by simp, HB.out⟩
  | true =>
  have c3 := cell_block HK.out (j := 3) (v := .slice s.pr rs.length s.cr) rfl
  go_wp2_with fail
  refine (HRs.out _ HB.out).mono ?_
  rintro e w4 ⟨rfl, rfl⟩
  cases z4 with
  | false =>
    go_wp2_with fail
    go_ret
    exact ⟨by simp, HB.out⟩
  | true =>
  have c4 := cell_block HK.out (j := 4) (v := .slice s.pb bd.len s.cb) rfl
  go_wp2_with fail
  refine (HBd.out _ HB.out).mono ?_
  rintro e w5 ⟨rfl, hB⟩
  replace HB := Lib.hid (HB.out.trans (hB.mono HB.out.size))
  clear hB
  go_wp2_with fail
  go_ret
  exact ⟨by simp, HB.out⟩
set_option maxRecDepth 100000 in
set_option maxHeartbeats 3200000 in
theorem everyFn_any (l : List Fnc) (hl6 : ∀ f ∈ l, f.body.wt ≤ 1000000) (p : Option Addr) (c N : Nat) (w : World) (hN : N ≤ w.heap.size) (h : RowIn N (Fnc.At w N) 5 l p) :
    Calls Tryd.prog 28 #[.slice p l.length c, .func (.func 29) #[] #[]] w fun e w' => e = .returned (.bool (l.all Fnc.may)) ∧ Below w.heap.size w w' := by
  have S1 := Lib.hid h
  have hm1 := h.1
  have HNN := Lib.hid hN
  have HL6 := Lib.hid hl6
  clear h hN hl6
  go_enter Tryd.func28, Tryd.ntmps28
  go_wp2_with fail
  go_loopw [9] (fun i wr => ∃ (k : Nat) (r : List Fnc), i = .int .i64 k ∧ k + r.length = l.length ∧ Hid (∀ x ∈ r, x ∈ l) ∧ Hid (∀ b o, p = some ⟨b, o, none⟩ → Row (Fnc.At w N) 5 l b o → Row (Fnc.At w N) 5 r b (o + k * 5)) ∧ Hid (l.all Fnc.may = r.all Fnc.may) ∧ Hid (Below w.heap.size w wr)) (fun i _ => l.length - (intOf i).toNat)
  case atStart => exact ⟨0, l, rfl, by omega, Lib.hid fun x h => h, Lib.hid fun b o _ h => by rw [Nat.zero_mul]; exact h, Lib.hid rfl, Lib.hid (Below.refl _ _)⟩
  case round =>
    obtain ⟨k, r, rfl, hk, hin, hat, hE, hB⟩ := hrel
    cases r with
    | nil =>
      simp only [List.length_nil] at hk
      have hge : ¬ k < l.length := by omega
      go_wp2_with fail
      go_ret
      exact ⟨ret_bool (by rw [hE.out]; rfl), hB.out⟩
    | cons x r =>
      simp only [List.length_cons] at hk
      have hlt : k < l.length := by omega
      obtain ⟨wo, rfl⟩ : ∃ wo : World, wo = wr := ⟨_, rfl⟩
      rcases S1.out.2 with h30 | ⟨b, o, rfl, hb, ha⟩
      · omega
      obtain ⟨hx, hr⟩ := hat.out b o rfl ha
      have HR := Lib.hid hr
      obtain ⟨s, c1, ok1⟩ := Fnc.At.openP (Fnc.At.later (hB.out.mono HNN.out) (Nat.le_trans HNN.out hB.out.size) x b _ hb hx)
      have hbl : b < wo.heap.size := by have := hB.out.size; have := HNN.out; omega
      obtain ⟨A1, hA1⟩ : ∃ A1, x.cells s = A1 := ⟨_, rfl⟩
      have HZ1 := Lib.hid (show A1.size = 5 by rw [← hA1]; rfl)
      have HO1 := Lib.hid (show A1.all (·.oneCell') = true by rw [← hA1]; exact oneFnc _ _)
      have F1 := Lib.hid (show wo.rangeAt b (o + k * 5) A1.toList from fun j z hz => c1 j z (by rw [hA1, ← Array.getElem?_toList]; exact hz))
      have HI1 := Lib.hid (infoFnc.trans (by rw [HZ1.out]) : (Tryd.prog.info? 39).map (·.size) = some A1.size)
      obtain ⟨W1, hW1⟩ : ∃ W1, wo.alloc (Obj.cells A1 39) = W1 := ⟨_, rfl⟩
      have HW1 := Lib.hid (show Below wo.heap.size wo W1 by rw [← hW1]; exact (Below.refl _ wo).alloc (Nat.le_refl _) _)
      have F2 := Lib.hid (show W1.rangeAt wo.heap.size 0 A1.toList by rw [← hW1]; exact range_new wo A1 _)
      have HC := Lib.hid (mayFunc_any x (HL6.out x (hin.out x (by simp))) s wo.heap.size W1 HW1.out.size (Fnc.Ok.later ok1 HW1.out (Nat.le_refl _)))
      unfold Fnc.val at HC
      rw [hA1] at HC
      have HE := Lib.hid (show l.all Fnc.may = (x.may && r.all Fnc.may) by rw [hE.out, List.all_cons])
      have HIN := Lib.hid (show ∀ y ∈ r, y ∈ l from fun y hy => hin.out y (by simp [hy]))
      obtain ⟨m, hm'⟩ : ∃ m, x.may = m := ⟨_, rfl⟩
      rw [hm'] at HE HC
      clear ok1 hA1 c1 hx hr ha hE hm' hin
      go_wp2_with (first | (refine wpl_load rfl 39 _ rfl b (o + k * 5) rfl A1 _ F1.out Tryd.underlying39 rfl HI1.out ?_) | (refine wpl_store_new rfl 39 _ _ rfl _ A1 _ rfl rfl (by rw [HZ1.out]; rfl) HI1.out HO1.out ?_; rw [hW1]) | (refine wpl_load rfl 39 _ rfl wo.heap.size 0 rfl A1 _ F2.out Tryd.underlying39 rfl HI1.out ?_))
      refine HC.out.mono ?_
      rintro e w2 ⟨rfl, hB2⟩
      have HB3 := Lib.hid (hB.out.trans ((HW1.out.trans (hB2.mono HW1.out.size)).mono hB.out.size))
      clear hB2
      cases m
      · go_wp2_with fail
        go_ret
        exact ⟨ret_bool (by rw [HE.out]; rfl), HB3.out⟩
      · go_wp2_with fail
        go_roundw
        case rel => exact ⟨k + 1, r, by go_num, by omega, HIN, Lib.hid fun b' o' e _ => by cases e; rw [show o + (k + 1) * 5 = o + k * 5 + 5 by omega]; exact HR.out, Lib.hid (by rw [HE.out]; simp), HB3⟩
        case measure => simp [intOf]; omega
set_option maxHeartbeats 3200000 in
theorem may_any (x : Prg) (h6 : ∀ f ∈ x.fns, f.body.wt ≤ 1000000) (p q : Option Addr) (c d N : Nat) (w : World) (hN : N ≤ w.heap.size) (h : x.Ok w N p q) :
    Calls Tryd.prog 11 #[x.val p q c d] w fun e w' => e = .returned (.bool x.may) ∧ Below w.heap.size w w' := by
  obtain ⟨rg, fs⟩ := x
  obtain ⟨W1, hW1⟩ : ∃ W1, w.alloc (.cells #[.slice p rg.length c, .slice q fs.length d] 43 (0, 0)) = W1 := ⟨_, rfl⟩
  have hB1 : Below w.heap.size w W1 := by rw [← hW1]; exact (Below.refl w.heap.size w).alloc (Nat.le_refl _) _
  have HK := Lib.hid (show W1.heap[w.heap.size]? = some (.cells #[.slice p rg.length c, .slice q fs.length d] 43 (0, 0)) by rw [← hW1]; exact heap_alloc_new w _)
  have HB := Lib.hid hB1
  have HRg := Lib.hid (fun (w1 : World) (hB : Below w.heap.size w w1) => everyRg_any rg p c N w1 (Nat.le_trans hN hB.size) (h.1.imp (Nat.le_refl N) (Rgn.At.later (hB.mono hN))))
  have HFn := Lib.hid (fun (w1 : World) (hB : Below w.heap.size w w1) => everyFn_any fs h6 q d N w1 (Nat.le_trans hN hB.size) (h.2.imp (Nat.le_refl N) (Fnc.At.later (hB.mono hN) (Nat.le_refl N))))
  unfold Prg.val Prg.may
  simp only []
  clear hB1 h
  generalize rg.all Rgn.may = z1 at *
  generalize fs.all Fnc.may = z2 at *
  have c0 := cell_block HK.out (j := 0) (v := .slice p rg.length c) rfl
  go_enter Tryd.func11, Tryd.ntmps11
  go_wp2_with fail
  refine (HRg.out _ HB.out).mono ?_
  rintro e w2 ⟨rfl, hB⟩
  replace HK := Lib.hid ((hB.block _ (lt_of_block HK.out)).trans HK.out)
  replace HB := Lib.hid (HB.out.trans (hB.mono HB.out.size))
  clear hB c0
  cases z1 with
  | false =>
    go_wp2_with fail
    go_ret
    exact ⟨by simp, HB.out⟩
  | true =>
  have c1 := cell_block HK.out (j := 1) (v := .slice q fs.length d) rfl
  go_wp2_with fail
  refine (HFn.out _ HB.out).mono ?_
  rintro e w3 ⟨rfl, hB⟩
  replace HB := Lib.hid (HB.out.trans (hB.mono HB.out.size))
  clear hB
  go_wp2_with fail
  go_ret
  exact ⟨by simp, HB.out⟩
end Go.Proofs.YtkjhofnkgcjcoaaDoor
