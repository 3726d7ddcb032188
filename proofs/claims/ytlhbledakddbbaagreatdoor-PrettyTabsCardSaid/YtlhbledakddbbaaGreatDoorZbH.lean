/- J4, W5, I3, W6 as one. -/
import Derived.Test.YtlhbledakddbbaaGreatDoorZbG
/- Which programs can be told: the program's May. -/
namespace Go.Proofs.YtlhbledakddbbaaGreatDoor
open Go.RowKit

def Vr.val (v : Vr) : Value := .agg #[.string (str v.name), .int .i64 v.kind, .int .i64 v.size, .bool v.secret]
def Rgn.val (r : Rgn) : Value := .agg #[.string (str r.name), .int .i64 r.addr, .int .i64 r.size, .bool r.secret]
set_option maxHeartbeats 1600000 in
theorem mayRegion_any (r : Rgn) (w : World) : Calls Tryz.prog 51 #[r.val] w fun e w' => e = .returned (.bool r.may) ∧ Below w.heap.size w w' := by
  obtain ⟨nm, ad, sz, sc⟩ := r
  have HNm := Lib.hid (fun w => name_any (str nm) w)
  rw [str_data] at HNm
  have HB := Lib.hid ((Below.refl w.heap.size w).alloc (Nat.le_refl _) (.cells #[.string (str nm), .int .i64 ad, .int .i64 sz, .bool sc] 77 (0, 0)))
  unfold Rgn.val Rgn.may
  simp only []
  generalize nameB nm = z at *
  go_enter Tryz.func51, Tryz.ntmps51
  go_wp2_with fail
  refine (HNm.out _).mono ?_
  rintro e w2 ⟨rfl, rfl⟩
  cases z with
  | false =>
    go_wp2_with fail
    go_ret
    exact ⟨by simp, HB.out⟩
  | true =>
    by_cases h1 : 0 ≤ ad
    · by_cases h2 : 0 ≤ sz
      · go_wp2_with fail
        go_ret
        exact ⟨by simp [h1, h2], HB.out⟩
      · go_wp2_with fail
        go_ret
        exact ⟨by simp [h1], HB.out⟩
    · go_wp2_with fail
      go_ret
      exact ⟨by simp; omega, HB.out⟩
set_option maxHeartbeats 1600000 in
theorem mayParam_any (v : Vr) (w : World) : Calls Tryz.prog 92 #[v.val] w fun e w' => e = .returned (.bool v.mayP) ∧ Below w.heap.size w w' := by
  obtain ⟨nm, kd, sz, sc⟩ := v
  have HNm := Lib.hid (fun w => name_any (str nm) w)
  rw [str_data] at HNm
  have HB := Lib.hid ((Below.refl w.heap.size w).alloc (Nat.le_refl _) (.cells #[.string (str nm), .int .i64 kd, .int .i64 sz, .bool sc] 80 (0, 0)))
  unfold Vr.val Vr.mayP
  simp only []
  generalize nameB nm = z at *
  go_enter Tryz.func92, Tryz.ntmps92
  go_wp2_with fail
  refine (HNm.out _).mono ?_
  rintro e w2 ⟨rfl, rfl⟩
  cases z with
  | false =>
    go_wp2_with fail
    go_ret
    exact ⟨by simp, HB.out⟩
  | true =>
    by_cases h1 : kd = 1
    · subst h1
      by_cases h2 : sz = 0
      · subst h2
        go_wp2_with fail
        go_ret
        exact ⟨by simp, HB.out⟩
      · have f2 : (sz == 0) = false := by simp; exact h2
        go_wp2_with fail
        go_ret
        exact ⟨by simp, HB.out⟩
    · have f1 : (kd == 1) = false := by simp; exact h1
      go_wp2_with fail
      go_ret
      exact ⟨by simp [h1], HB.out⟩
set_option maxHeartbeats 3200000 in
theorem mayVar_any (v : Vr) (w : World) : Calls Tryz.prog 93 #[v.val] w fun e w' => e = .returned (.bool v.may) ∧ Below w.heap.size w w' := by
  obtain ⟨nm, kd, sz, sc⟩ := v
  have HNm := Lib.hid (fun w => name_any (str nm) w)
  rw [str_data] at HNm
  obtain ⟨W1, hW1⟩ : ∃ W1, w.alloc (.cells #[.string (str nm), .int .i64 kd, .int .i64 sz, .bool sc] 80 (0, 0)) = W1 := ⟨_, rfl⟩
  have hB1 : Below w.heap.size w W1 := by rw [← hW1]; exact (Below.refl w.heap.size w).alloc (Nat.le_refl _) _
  have hk1 : W1.heap[w.heap.size]? = some (.cells #[.string (str nm), .int .i64 kd, .int .i64 sz, .bool sc] 80 (0, 0)) := by rw [← hW1]; exact heap_alloc_new w _
  have HK := Lib.hid hk1
  have HB := Lib.hid hB1
  have HP := Lib.hid (mayParam_any ⟨nm, kd, sz, sc⟩ W1)
  have c0 := cell_block hk1 (j := 0) (v := .string (str nm)) rfl
  have c1 := cell_block hk1 (j := 1) (v := .int .i64 kd) rfl
  have c2 := cell_block hk1 (j := 2) (v := .int .i64 sz) rfl
  have c3 := cell_block hk1 (j := 3) (v := .bool sc) rfl
  unfold Vr.val at HP ⊢
  unfold Vr.may
  simp only [] at HP ⊢
  clear hB1 hk1
  generalize (Vr.mk nm kd sz sc).mayP = zp at *
  generalize nameB nm = z at *
  by_cases h1 : kd = 1
  · subst h1
    rw [if_pos rfl]
    go_enter Tryz.func93, Tryz.ntmps93
    go_wp2_with fail
    refine HP.out.mono ?_
    rintro e w2 ⟨rfl, hB2⟩
    have d3 := cell_block ((hB2.block _ (lt_of_block HK.out)).trans HK.out) (j := 3) (v := .bool sc) rfl
    have HB2 := Lib.hid (HB.out.trans (hB2.mono HB.out.size))
    clear hB2 c0 c1 c2 c3
    cases zp with
    | false =>
      go_wp2_with fail
      go_ret
      exact ⟨by simp, HB2.out⟩
    | true =>
      go_wp2_with fail
      go_ret
      exact ⟨by simp, HB2.out⟩
  · have f1 : (kd == 1) = false := by simp; exact h1
    rw [if_neg h1]
    by_cases h23 : kd = 2 ∨ kd = 3
    · rw [if_pos h23]
      rcases h23 with rfl | rfl
      · go_enter Tryz.func93, Tryz.ntmps93
        go_wp2_with fail
        refine (HNm.out _).mono ?_
        rintro e w2 ⟨rfl, rfl⟩
        cases z with
        | false =>
          go_wp2_with fail
          go_ret
          exact ⟨by simp, HB.out⟩
        | true =>
          by_cases h2 : 0 ≤ sz
          · go_wp2_with fail
            go_ret
            exact ⟨by simp [h2], HB.out⟩
          · go_wp2_with fail
            go_ret
            exact ⟨by simp, HB.out⟩
      · go_enter Tryz.func93, Tryz.ntmps93
        go_wp2_with fail
        refine (HNm.out _).mono ?_
        rintro e w2 ⟨rfl, rfl⟩
        cases z with
        | false =>
          go_wp2_with fail
          go_ret
          exact ⟨by simp, HB.out⟩
        | true =>
          by_cases h2 : 0 ≤ sz
          · go_wp2_with fail
            go_ret
            exact ⟨by simp [h2], HB.out⟩
          · go_wp2_with fail
            go_ret
            exact ⟨by simp, HB.out⟩
    · have f2 : (kd == 2) = false := by simp; omega
      have f3 : (kd == 3) = false := by simp; omega
      rw [if_neg h23]
      go_enter Tryz.func93, Tryz.ntmps93
      go_wp2_with fail
      go_ret
      exact ⟨rfl, HB.out⟩

set_option maxHeartbeats 3200000 in
theorem everyRg_any (l : List Rgn) (p : Option Addr) (c N : Nat) (w : World) (hN : N ≤ w.heap.size) (h : RowIn N (Rgn.At w) 4 l p) :
    Calls Tryz.prog 50 #[.slice p l.length c, .func (.func 51) #[] #[]] w fun e w' => e = .returned (.bool (l.all Rgn.may)) ∧ Below w.heap.size w w' := by
  have S1 := Lib.hid h
  have hm1 := h.1
  have HNN := Lib.hid hN
  clear h hN
  go_enter Tryz.func50, Tryz.ntmps50
  go_wp2_with fail
  go_loopw [9] (fun i wr => ∃ (k : Nat) (r : List Rgn), i = .int .i64 k ∧ k + r.length = l.length ∧ Hid (∀ b o, p = some ⟨b, o, none⟩ → Row (Rgn.At w) 4 l b o → Row (Rgn.At w) 4 r b (o + k * 4)) ∧ Hid (l.all Rgn.may = r.all Rgn.may) ∧ Hid (Below w.heap.size w wr)) (fun i _ => l.length - (intOf i).toNat)
  case atStart => exact ⟨0, l, rfl, by omega, Lib.hid fun b o _ h => by rw [Nat.zero_mul]; exact h, Lib.hid rfl, Lib.hid (Below.refl _ _)⟩
  case round =>
    obtain ⟨k, r, rfl, hk, hat, hE, hB⟩ := hrel
    cases r with
    | nil =>
      simp only [List.length_nil] at hk
      have hge : ¬ k < l.length := by omega
      go_wp2_with fail
      go_ret
      exact ⟨ret_bool (by rw [hE.out]; rfl), hB.out⟩
    | cons x r =>
      simp only [List.length_cons] at hk
      have hlt : k < l.length := by omega
      obtain ⟨wo, rfl⟩ : ∃ wo : World, wo = wr := ⟨_, rfl⟩
      rcases S1.out.2 with h30 | ⟨b, o, rfl, hb, ha⟩
      · omega
      obtain ⟨hx, hr⟩ := hat.out b o rfl ha
      have HR := Lib.hid hr
      have hx' := Rgn.At.later (hB.out.mono HNN.out) x b _ hb hx
      obtain ⟨g0, g1, g2, g3⟩ := hx'
      have HC := Lib.hid (mayRegion_any x (wo.alloc (.cells #[.string (str x.name), .int .i64 x.addr, .int .i64 x.size, .bool x.secret] 77)))
      unfold Rgn.val at HC
      have HE := Lib.hid (show l.all Rgn.may = (Rgn.may x && r.all Rgn.may) by rw [hE.out, List.all_cons])
      obtain ⟨m, hm'⟩ : ∃ m, Rgn.may x = m := ⟨_, rfl⟩
      rw [hm'] at HE HC
      clear hx hr ha hE hm'
      go_wp2_with fail
      refine HC.out.mono ?_
      rintro e w2 ⟨rfl, hB2⟩
      have HB3 := Lib.hid (hB.out.trans ((((Below.refl _ wo).alloc (Nat.le_refl _) (.cells #[.string (str x.name), .int .i64 x.addr, .int .i64 x.size, .bool x.secret] 77)).trans (hB2.mono (by simp))).mono hB.out.size))
      clear hB2
      cases m
      · go_wp2_with fail
        go_ret
        exact ⟨ret_bool (by rw [HE.out]; rfl), HB3.out⟩
      · go_wp2_with fail
        go_roundw
        case rel => exact ⟨k + 1, r, by go_num, by omega, Lib.hid fun b' o' e _ => by cases e; rw [show o + (k + 1) * 4 = o + k * 4 + 4 by omega]; exact HR.out, Lib.hid (by rw [HE.out]; simp), HB3⟩
        case measure => simp [intOf]; omega
set_option maxHeartbeats 3200000 in
theorem everyPa_any (l : List Vr) (p : Option Addr) (c N : Nat) (w : World) (hN : N ≤ w.heap.size) (h : RowIn N (Vr.At w) 4 l p) :
    Calls Tryz.prog 91 #[.slice p l.length c, .func (.func 92) #[] #[]] w fun e w' => e = .returned (.bool (l.all Vr.mayP)) ∧ Below w.heap.size w w' := by
  have S1 := Lib.hid h
  have hm1 := h.1
  have HNN := Lib.hid hN
  clear h hN
  go_enter Tryz.func91, Tryz.ntmps91
  go_wp2_with fail
  go_loopw [9] (fun i wr => ∃ (k : Nat) (r : List Vr), i = .int .i64 k ∧ k + r.length = l.length ∧ Hid (∀ b o, p = some ⟨b, o, none⟩ → Row (Vr.At w) 4 l b o → Row (Vr.At w) 4 r b (o + k * 4)) ∧ Hid (l.all Vr.mayP = r.all Vr.mayP) ∧ Hid (Below w.heap.size w wr)) (fun i _ => l.length - (intOf i).toNat)
  case atStart => exact ⟨0, l, rfl, by omega, Lib.hid fun b o _ h => by rw [Nat.zero_mul]; exact h, Lib.hid rfl, Lib.hid (Below.refl _ _)⟩
  case round =>
    obtain ⟨k, r, rfl, hk, hat, hE, hB⟩ := hrel
    cases r with
    | nil =>
      simp only [List.length_nil] at hk
      have hge : ¬ k < l.length := by omega
      go_wp2_with fail
      go_ret
      exact ⟨ret_bool (by rw [hE.out]; rfl), hB.out⟩
    | cons x r =>
      simp only [List.length_cons] at hk
      have hlt : k < l.length := by omega
      obtain ⟨wo, rfl⟩ : ∃ wo : World, wo = wr := ⟨_, rfl⟩
      rcases S1.out.2 with h30 | ⟨b, o, rfl, hb, ha⟩
      · omega
      obtain ⟨hx, hr⟩ := hat.out b o rfl ha
      have HR := Lib.hid hr
      have hx' := Vr.At.later (hB.out.mono HNN.out) x b _ hb hx
      obtain ⟨g0, g1, g2, g3⟩ := hx'
      have HC := Lib.hid (mayParam_any x (wo.alloc (.cells #[.string (str x.name), .int .i64 x.kind, .int .i64 x.size, .bool x.secret] 80)))
      unfold Vr.val at HC
      have HE := Lib.hid (show l.all Vr.mayP = (Vr.mayP x && r.all Vr.mayP) by rw [hE.out, List.all_cons])
      obtain ⟨m, hm'⟩ : ∃ m, Vr.mayP x = m := ⟨_, rfl⟩
      rw [hm'] at HE HC
      clear hx hr ha hE hm'
      go_wp2_with fail
      refine HC.out.mono ?_
      rintro e w2 ⟨rfl, hB2⟩
      have HB3 := Lib.hid (hB.out.trans ((((Below.refl _ wo).alloc (Nat.le_refl _) (.cells #[.string (str x.name), .int .i64 x.kind, .int .i64 x.size, .bool x.secret] 80)).trans (hB2.mono (by simp))).mono hB.out.size))
      clear hB2
      cases m
      · go_wp2_with fail
        go_ret
        exact ⟨ret_bool (by rw [HE.out]; rfl), HB3.out⟩
      · go_wp2_with fail
        go_roundw
        case rel => exact ⟨k + 1, r, by go_num, by omega, Lib.hid fun b' o' e _ => by cases e; rw [show o + (k + 1) * 4 = o + k * 4 + 4 by omega]; exact HR.out, Lib.hid (by rw [HE.out]; simp), HB3⟩
        case measure => simp [intOf]; omega
set_option maxHeartbeats 3200000 in
theorem everyVr_any (l : List Vr) (p : Option Addr) (c N : Nat) (w : World) (hN : N ≤ w.heap.size) (h : RowIn N (Vr.At w) 4 l p) :
    Calls Tryz.prog 91 #[.slice p l.length c, .func (.func 93) #[] #[]] w fun e w' => e = .returned (.bool (l.all Vr.may)) ∧ Below w.heap.size w w' := by
  have S1 := Lib.hid h
  have hm1 := h.1
  have HNN := Lib.hid hN
  clear h hN
  go_enter Tryz.func91, Tryz.ntmps91
  go_wp2_with fail
  go_loopw [9] (fun i wr => ∃ (k : Nat) (r : List Vr), i = .int .i64 k ∧ k + r.length = l.length ∧ Hid (∀ b o, p = some ⟨b, o, none⟩ → Row (Vr.At w) 4 l b o → Row (Vr.At w) 4 r b (o + k * 4)) ∧ Hid (l.all Vr.may = r.all Vr.may) ∧ Hid (Below w.heap.size w wr)) (fun i _ => l.length - (intOf i).toNat)
  case atStart => exact ⟨0, l, rfl, by omega, Lib.hid fun b o _ h => by rw [Nat.zero_mul]; exact h, Lib.hid rfl, Lib.hid (Below.refl _ _)⟩
  case round =>
    obtain ⟨k, r, rfl, hk, hat, hE, hB⟩ := hrel
    cases r with
    | nil =>
      simp only [List.length_nil] at hk
      have hge : ¬ k < l.length := by omega
      go_wp2_with fail
      go_ret
      exact ⟨ret_bool (by rw [hE.out]; rfl), hB.out⟩
    | cons x r =>
      simp only [List.length_cons] at hk
      have hlt : k < l.length := by omega
      obtain ⟨wo, rfl⟩ : ∃ wo : World, wo = wr := ⟨_, rfl⟩
      rcases S1.out.2 with h30 | ⟨b, o, rfl, hb, ha⟩
      · omega
      obtain ⟨hx, hr⟩ := hat.out b o rfl ha
      have HR := Lib.hid hr
      have hx' := Vr.At.later (hB.out.mono HNN.out) x b _ hb hx
      obtain ⟨g0, g1, g2, g3⟩ := hx'
      have HC := Lib.hid (mayVar_any x (wo.alloc (.cells #[.string (str x.name), .int .i64 x.kind, .int .i64 x.size, .bool x.secret] 80)))
      unfold Vr.val at HC
      have HE := Lib.hid (show l.all Vr.may = (Vr.may x && r.all Vr.may) by rw [hE.out, List.all_cons])
      obtain ⟨m, hm'⟩ : ∃ m, Vr.may x = m := ⟨_, rfl⟩
      rw [hm'] at HE HC
      clear hx hr ha hE hm'
      go_wp2_with fail
      refine HC.out.mono ?_
      rintro e w2 ⟨rfl, hB2⟩
      have HB3 := Lib.hid (hB.out.trans ((((Below.refl _ wo).alloc (Nat.le_refl _) (.cells #[.string (str x.name), .int .i64 x.kind, .int .i64 x.size, .bool x.secret] 80)).trans (hB2.mono (by simp))).mono hB.out.size))
      clear hB2
      cases m
      · go_wp2_with fail
        go_ret
        exact ⟨ret_bool (by rw [HE.out]; rfl), HB3.out⟩
      · go_wp2_with fail
        go_roundw
        case rel => exact ⟨k + 1, r, by go_num, by omega, Lib.hid fun b' o' e _ => by cases e; rw [show o + (k + 1) * 4 = o + k * 4 + 4 by omega]; exact HR.out, Lib.hid (by rw [HE.out]; simp), HB3⟩
        case measure => simp [intOf]; omega
set_option maxHeartbeats 3200000 in
theorem mayFunc_any (f : Fnc) (hf6 : f.body.wt ≤ 1000000) (s : FncP) (N : Nat) (w : World) (hN : N ≤ w.heap.size) (h : f.Ok w N s) :
    Calls Tryz.prog 53 #[f.val s] w fun e w' => e = .returned (.bool f.may) ∧ Below w.heap.size w w' := by
  obtain ⟨nm, ps, vs, rs, bd⟩ := f
  have HNm := Lib.hid (fun w => name_any (str nm) w)
  rw [str_data] at HNm
  obtain ⟨W1, hW1⟩ : ∃ W1, w.alloc (.cells #[.string (str nm), .slice s.pp ps.length s.cp, .slice s.pv vs.length s.cv, .slice s.pr rs.length s.cr, .slice s.pb bd.len s.cb] 49 (0, 0)) = W1 := ⟨_, rfl⟩
  have hB1 : Below w.heap.size w W1 := by rw [← hW1]; exact (Below.refl w.heap.size w).alloc (Nat.le_refl _) _
  have HK := Lib.hid (show W1.heap[w.heap.size]? = some (.cells #[.string (str nm), .slice s.pp ps.length s.cp, .slice s.pv vs.length s.cv, .slice s.pr rs.length s.cr, .slice s.pb bd.len s.cb] 49 (0, 0)) by rw [← hW1]; exact heap_alloc_new w _)
  have HB := Lib.hid hB1
  have HPs := Lib.hid (fun (w1 : World) (hB : Below w.heap.size w w1) => everyPa_any ps s.pp s.cp N w1 (Nat.le_trans hN hB.size) (h.1.imp (Nat.le_refl N) (Vr.At.later (hB.mono hN))))
  have HVs := Lib.hid (fun (w1 : World) (hB : Below w.heap.size w w1) => everyVr_any vs s.pv s.cv N w1 (Nat.le_trans hN hB.size) (h.2.1.imp (Nat.le_refl N) (Vr.At.later (hB.mono hN))))
  have HRs := Lib.hid (fun (w1 : World) (hB : Below w.heap.size w w1) => everyStr_any rs s.pr s.cr N w1 (h.2.2.1.2.imp (Nat.le_refl N) (StrAt.later (hB.mono hN))))
  have HBd := Lib.hid (fun (w1 : World) (hB : Below w.heap.size w w1) => mayBody_any bd hf6 s.pb s.cb N w1 (Nat.le_trans hN hB.size) (h.2.2.2.later (hB.mono hN) (Nat.le_refl N)))
  unfold Fnc.val Fnc.cells Fnc.may
  simp only []
  clear hB1 h
  generalize nameB nm = z1 at *
  generalize ps.all Vr.mayP = z2 at *
  generalize vs.all Vr.may = z3 at *
  generalize namesB rs = z4 at *
  generalize bd.can = z5 at *
  have c0 := cell_block HK.out (j := 0) (v := .string (str nm)) rfl
  have c1 := cell_block HK.out (j := 1) (v := .slice s.pp ps.length s.cp) rfl
  go_enter Tryz.func53, Tryz.ntmps53
  go_wp2_with fail
  refine (HNm.out _).mono ?_
  rintro e w2 ⟨rfl, rfl⟩
  cases z1 with
  | false =>
    go_wp2_with fail
    go_ret
    exact ⟨by simp, HB.out⟩
  | true =>
  go_wp2_with fail
  refine (HPs.out _ HB.out).mono ?_
  rintro e w2 ⟨rfl, hB⟩
  replace HK := Lib.hid ((hB.block _ (lt_of_block HK.out)).trans HK.out)
  replace HB := Lib.hid (HB.out.trans (hB.mono HB.out.size))
  clear hB c0 c1
  cases z2 with
  | false =>
    go_wp2_with fail
    go_ret
    exact ⟨by simp, HB.out⟩
  | true =>
  have c2 := cell_block HK.out (j := 2) (v := .slice s.pv vs.length s.cv) rfl
  go_wp2_with fail
  refine (HVs.out _ HB.out).mono ?_
  rintro e w3 ⟨rfl, hB⟩
  replace HK := Lib.hid ((hB.block _ (lt_of_block HK.out)).trans HK.out)
  replace HB := Lib.hid (HB.out.trans (hB.mono HB.out.size))
  clear hB c2
  cases z3 with
  | false =>
    go_wp2_with fail
    go_ret
    exact ⟨by simp, HB.out⟩
  | true =>
  have c3 := cell_block HK.out (j := 3) (v := .slice s.pr rs.length s.cr) rfl
  go_wp2_with fail
  refine (HRs.out _ HB.out).mono ?_
  rintro e w4 ⟨rfl, rfl⟩
  cases z4 with
  | false =>
    go_wp2_with fail
    go_ret
    exact ⟨by simp, HB.out⟩
  | true =>
  have c4 := cell_block HK.out (j := 4) (v := .slice s.pb bd.len s.cb) rfl
  go_wp2_with fail
  refine (HBd.out _ HB.out).mono ?_
  rintro e w5 ⟨rfl, hB⟩
  replace HB := Lib.hid (HB.out.trans (hB.mono HB.out.size))
  clear hB
  go_wp2_with fail
  go_ret
  exact ⟨by simp, HB.out⟩
set_option maxRecDepth 100000 in
set_option maxHeartbeats 3200000 in
theorem everyFn_any (l : List Fnc) (hl6 : ∀ f ∈ l, f.body.wt ≤ 1000000) (p : Option Addr) (c N : Nat) (w : World) (hN : N ≤ w.heap.size) (h : RowIn N (Fnc.At w N) 5 l p) :
    Calls Tryz.prog 52 #[.slice p l.length c, .func (.func 53) #[] #[]] w fun e w' => e = .returned (.bool (l.all Fnc.may)) ∧ Below w.heap.size w w' := by
  have S1 := Lib.hid h
  have hm1 := h.1
  have HNN := Lib.hid hN
  have HL6 := Lib.hid hl6
  clear h hN hl6
  go_enter Tryz.func52, Tryz.ntmps52
  go_wp2_with fail
  go_loopw [9] (fun i wr => ∃ (k : Nat) (r : List Fnc), i = .int .i64 k ∧ k + r.length = l.length ∧ Hid (∀ x ∈ r, x ∈ l) ∧ Hid (∀ b o, p = some ⟨b, o, none⟩ → Row (Fnc.At w N) 5 l b o → Row (Fnc.At w N) 5 r b (o + k * 5)) ∧ Hid (l.all Fnc.may = r.all Fnc.may) ∧ Hid (Below w.heap.size w wr)) (fun i _ => l.length - (intOf i).toNat)
  case atStart => exact ⟨0, l, rfl, by omega, Lib.hid fun x h => h, Lib.hid fun b o _ h => by rw [Nat.zero_mul]; exact h, Lib.hid rfl, Lib.hid (Below.refl _ _)⟩
  case round =>
    obtain ⟨k, r, rfl, hk, hin, hat, hE, hB⟩ := hrel
    cases r with
    | nil =>
      simp only [List.length_nil] at hk
      have hge : ¬ k < l.length := by omega
      go_wp2_with fail
      go_ret
      exact ⟨ret_bool (by rw [hE.out]; rfl), hB.out⟩
    | cons x r =>
      simp only [List.length_cons] at hk
      have hlt : k < l.length := by omega
      obtain ⟨wo, rfl⟩ : ∃ wo : World, wo = wr := ⟨_, rfl⟩
      rcases S1.out.2 with h30 | ⟨b, o, rfl, hb, ha⟩
      · omega
      obtain ⟨hx, hr⟩ := hat.out b o rfl ha
      have HR := Lib.hid hr
      obtain ⟨s, c1, ok1⟩ := Fnc.At.openP (Fnc.At.later (hB.out.mono HNN.out) (Nat.le_trans HNN.out hB.out.size) x b _ hb hx)
      have hbl : b < wo.heap.size := by have := hB.out.size; have := HNN.out; omega
      obtain ⟨A1, hA1⟩ : ∃ A1, x.cells s = A1 := ⟨_, rfl⟩
      have HZ1 := Lib.hid (show A1.size = 5 by rw [← hA1]; rfl)
      have HO1 := Lib.hid (show A1.all (·.oneCell') = true by rw [← hA1]; exact oneFnc _ _)
      have F1 := Lib.hid (show wo.rangeAt b (o + k * 5) A1.toList from fun j z hz => c1 j z (by rw [hA1, ← Array.getElem?_toList]; exact hz))
      have HI1 := Lib.hid (infoFnc.trans (by rw [HZ1.out]) : (Tryz.prog.info? 49).map (·.size) = some A1.size)
      obtain ⟨W1, hW1⟩ : ∃ W1, wo.alloc (Obj.cells A1 49) = W1 := ⟨_, rfl⟩
      have HW1 := Lib.hid (show Below wo.heap.size wo W1 by rw [← hW1]; exact (Below.refl _ wo).alloc (Nat.le_refl _) _)
      have F2 := Lib.hid (show W1.rangeAt wo.heap.size 0 A1.toList by rw [← hW1]; exact range_new wo A1 _)
      have HC := Lib.hid (mayFunc_any x (HL6.out x (hin.out x (by simp))) s wo.heap.size W1 HW1.out.size (Fnc.Ok.later ok1 HW1.out (Nat.le_refl _)))
      unfold Fnc.val at HC
      rw [hA1] at HC
      have HE := Lib.hid (show l.all Fnc.may = (x.may && r.all Fnc.may) by rw [hE.out, List.all_cons])
      have HIN := Lib.hid (show ∀ y ∈ r, y ∈ l from fun y hy => hin.out y (by simp [hy]))
      obtain ⟨m, hm'⟩ : ∃ m, x.may = m := ⟨_, rfl⟩
      rw [hm'] at HE HC
      clear ok1 hA1 c1 hx hr ha hE hm' hin
      go_wp2_with (first | (refine wpl_load rfl 49 _ rfl b (o + k * 5) rfl A1 _ F1.out Tryz.underlying49 rfl HI1.out ?_) | (refine wpl_store_new rfl 49 _ _ rfl _ A1 _ rfl rfl (by rw [HZ1.out]; rfl) HI1.out HO1.out ?_; rw [hW1]) | (refine wpl_load rfl 49 _ rfl wo.heap.size 0 rfl A1 _ F2.out Tryz.underlying49 rfl HI1.out ?_))
      refine HC.out.mono ?_
      rintro e w2 ⟨rfl, hB2⟩
      have HB3 := Lib.hid (hB.out.trans ((HW1.out.trans (hB2.mono HW1.out.size)).mono hB.out.size))
      clear hB2
      cases m
      · go_wp2_with fail
        go_ret
        exact ⟨ret_bool (by rw [HE.out]; rfl), HB3.out⟩
      · go_wp2_with fail
        go_roundw
        case rel => exact ⟨k + 1, r, by go_num, by omega, HIN, Lib.hid fun b' o' e _ => by cases e; rw [show o + (k + 1) * 5 = o + k * 5 + 5 by omega]; exact HR.out, Lib.hid (by rw [HE.out]; simp), HB3⟩
        case measure => simp [intOf]; omega
set_option maxHeartbeats 3200000 in
theorem may_any (x : Prg) (h6 : ∀ f ∈ x.fns, f.body.wt ≤ 1000000) (p q : Option Addr) (c d N : Nat) (w : World) (hN : N ≤ w.heap.size) (h : x.Ok w N p q) :
    Calls Tryz.prog 18 #[x.val p q c d] w fun e w' => e = .returned (.bool x.may) ∧ Below w.heap.size w w' := by
  obtain ⟨rg, fs⟩ := x
  obtain ⟨W1, hW1⟩ : ∃ W1, w.alloc (.cells #[.slice p rg.length c, .slice q fs.length d] 39 (0, 0)) = W1 := ⟨_, rfl⟩
  have hB1 : Below w.heap.size w W1 := by rw [← hW1]; exact (Below.refl w.heap.size w).alloc (Nat.le_refl _) _
  have HK := Lib.hid (show W1.heap[w.heap.size]? = some (.cells #[.slice p rg.length c, .slice q fs.length d] 39 (0, 0)) by rw [← hW1]; exact heap_alloc_new w _)
  have HB := Lib.hid hB1
  have HRg := Lib.hid (fun (w1 : World) (hB : Below w.heap.size w w1) => everyRg_any rg p c N w1 (Nat.le_trans hN hB.size) (h.1.imp (Nat.le_refl N) (Rgn.At.later (hB.mono hN))))
  have HFn := Lib.hid (fun (w1 : World) (hB : Below w.heap.size w w1) => everyFn_any fs h6 q d N w1 (Nat.le_trans hN hB.size) (h.2.imp (Nat.le_refl N) (Fnc.At.later (hB.mono hN) (Nat.le_refl N))))
  unfold Prg.val Prg.may
  simp only []
  clear hB1 h
  generalize rg.all Rgn.may = z1 at *
  generalize fs.all Fnc.may = z2 at *
  have c0 := cell_block HK.out (j := 0) (v := .slice p rg.length c) rfl
  go_enter Tryz.func18, Tryz.ntmps18
  go_wp2_with fail
  refine (HRg.out _ HB.out).mono ?_
  rintro e w2 ⟨rfl, hB⟩
  replace HK := Lib.hid ((hB.block _ (lt_of_block HK.out)).trans HK.out)
  replace HB := Lib.hid (HB.out.trans (hB.mono HB.out.size))
  clear hB c0
  cases z1 with
  | false =>
    go_wp2_with fail
    go_ret
    exact ⟨by simp, HB.out⟩
  | true =>
  have c1 := cell_block HK.out (j := 1) (v := .slice q fs.length d) rfl
  go_wp2_with fail
  refine (HFn.out _ HB.out).mono ?_
  rintro e w3 ⟨rfl, hB⟩
  replace HB := Lib.hid (HB.out.trans (hB.mono HB.out.size))
  clear hB
  go_wp2_with fail
  go_ret
  exact ⟨by simp, HB.out⟩
end Go.Proofs.YtlhbledakddbbaaGreatDoor
/- The lines of any statements: the program's Lines; how much they have. -/
namespace Go.Proofs.YtlhbledakddbbaaGreatDoor
open Go.RowKit
attribute [local go_sem] Oper.semAt_some

theorem cnt_long {M t v : Nat} (h : Cnt M t v 0) : (M < v ↔ M < t) := by unfold Cnt at h; omega
theorem longSts_any (l : Sts) (M : Nat) (hM : M ≤ 5000) (p : Option Addr) (c N : Nat) (w : World) (h : l.In w N p) (hN : N ≤ w.heap.size) :
    Calls Tryz.prog 27 #[.slice p l.len c, .int .i64 M] w fun e w' => e = .returned (.bool (decide (M < l.total))) ∧ Below w.heap.size w w' := by
  have HC := Lib.hid (count_any l M hM p c N w h hN)
  clear h
  go_enter Tryz.func27, Tryz.ntmps27
  go_wp2_with fail
  refine HC.out.mono ?_
  rintro e w' ⟨⟨v, rfl, hv, hc⟩, hB⟩
  have hl := cnt_long hc
  have HB := Lib.hid hB
  have HL := Lib.hid hl
  clear hB hc hl
  go_wp2_with fail
  go_ret
  refine ⟨ret_bool ?_, HB.out⟩
  have := HL.out
  rw [Bool.eq_iff_iff]
  simp only [decide_eq_true_eq]
  omega
/-- an iterator that hands on nothing -/
theorem lines0_own (n : Nat) (G : World → Prop) (wx : World) : SeqOwn G Fence.wide n Tryz.prog 71 #[] encL [] wx := by
  intro l J Jx W hW hJ _ _ _ h0
  refine callsIn_wide.2 ?_
  show Calls Tryz.prog 71 #[.func (.yield l) #[] #[]] W _
  go_enter Tryz.func71, Tryz.ntmps71
  go_wp2_with fail
  go_end0
  exact ⟨⟨_, rfl⟩, .inl h0⟩
theorem lines_no (l : Sts) (h6 : l.wt ≤ 1000000) (p : Option Addr) (c N : Nat) (w : World) (h : l.In w N p) (hN : N ≤ w.heap.size) (hm : l.can = false) :
    Calls Tryz.prog 28 #[.slice p l.len c] w fun e w' => e = .returned (.func (.func 71) #[] #[]) ∧ Below w.heap.size w w' := by
  have HC := Lib.hid (mayBody_any l h6 p c N w hN h)
  rw [hm] at HC
  clear h hm
  go_enter Tryz.func28, Tryz.ntmps28
  go_wp2_with fail
  refine HC.out.mono ?_
  rintro e w' ⟨rfl, hB⟩
  have HB := Lib.hid hB
  clear hB
  go_wp2_with fail
  go_ret
  exact ⟨rfl, HB.out⟩
theorem lines_yes (l : Sts) (h6 : l.wt ≤ 1000000) (ht : l.total ≤ 100000) (p : Option Addr) (c N : Nat) (w : World) (h : l.In w N p) (hN : N ≤ w.heap.size) (hm : l.can = true) :
    Calls Tryz.prog 28 #[.slice p l.len c] w fun e w' => (∃ bx q d, e = .returned (.func (.func 107) #[] #[.pointer (some ⟨bx, 0, none⟩)]) ∧ w'.heap[bx]? = some (.cells #[.slice q l.len d] 47 (0, 0)) ∧ l.In w' w'.heap.size q) ∧ Below w.heap.size w w' := by
  have HC := Lib.hid (mayBody_any l h6 p c N w hN h)
  rw [hm] at HC
  have HP := Lib.hid (fun (w1 : World) (hB : Below w.heap.size w w1) => cpS_all _ l (Nat.lt_succ_self _) ht p c N w1 (Nat.le_trans hN hB.size) (h.later (hB.mono hN) (Nat.le_refl _)))
  clear h hm
  go_enter Tryz.func28, Tryz.ntmps28
  go_wp2_with fail
  refine HC.out.mono ?_
  rintro e w1 ⟨rfl, hB⟩
  have HB := Lib.hid hB
  clear hB
  go_wp2_with fail
  refine (HP.out _ HB.out).mono ?_
  rintro e w2 ⟨⟨q, d, rfl, hf⟩, hB2⟩
  have HF := Lib.hid hf
  have HB2 := Lib.hid (HB.out.trans (hB2.mono HB.out.size))
  clear hf hB2
  go_wp2_with fail
  refine (stmtLines_any _ _ _ _).mono ?_
  rintro e w3 ⟨bx, rfl, hx, _, hB3⟩
  have HX := Lib.hid hx
  have HB3 := Lib.hid hB3
  clear hx hB3
  go_wp2_with fail
  go_ret
  exact ⟨⟨bx, q, d, rfl, HX.out, (HF.out w3 (Agr.of_below HB3.out (Nat.le_refl _))).up HB3.out.size⟩, HB2.out.trans (HB3.out.mono HB2.out.size)⟩
end Go.Proofs.YtlhbledakddbbaaGreatDoor
/- Unlike programs that can be told have unlike texts: functions, regions, lines. -/
namespace Go.Proofs.YtlhbledakddbbaaGreatDoor
open Go.RowKit

theorem sec_cut {a b : Bool} {r s : List UInt8} {c d : UInt8} (hc : c ≠ 32) (hd : d ≠ 32) (h : secT a ++ c :: r = secT b ++ d :: s) : a = b ∧ c :: r = d :: s := by
  cases a <;> cases b
  · exact ⟨rfl, h⟩
  · simp only [secT, List.cons_append, Bool.false_eq_true, if_false, if_true, List.nil_append, List.cons.injEq] at h; exact absurd h.1 hc
  · simp only [secT, List.cons_append, Bool.false_eq_true, if_false, if_true, List.nil_append, List.cons.injEq] at h; exact absurd h.1.symm hd
  · exact ⟨rfl, List.append_cancel_left h⟩
theorem sec_brk (a : Bool) {c : UInt8} (r : List UInt8) (h : isPart c = false) : Brk (secT a ++ c :: r) := by
  cases a
  · exact brk_of _ h
  · exact b32 _
theorem mayP_parts {v : Vr} (h : v.mayP = true) : nameB v.name = true ∧ v.kind = 1 ∧ v.size = 0 := by
  unfold Vr.mayP at h
  rw [Bool.and_eq_true, Bool.and_eq_true] at h
  exact ⟨h.1, of_decide_eq_true h.2.1, of_decide_eq_true h.2.2⟩
theorem param_eq {v w : Vr} (hv : v.mayP = true) (hw : w.mayP = true) (h1 : v.name = w.name) (h2 : v.secret = w.secret) : v = w := by
  have a := mayP_parts hv
  have b := mayP_parts hw
  obtain ⟨n, k, s, c⟩ := v
  obtain ⟨n', k', s', c'⟩ := w
  obtain ⟨_, a1, a2⟩ := a
  obtain ⟨_, b1, b2⟩ := b
  simp only at a1 a2 b1 b2 h1 h2
  rw [a1, a2, b1, b2, h1, h2]
theorem tail_head (ts : List (List UInt8)) (c : UInt8) (s : List UInt8) : ∃ d r, Lib.joinTail [44, 32] ts ++ c :: s = d :: r ∧ (d = 44 ∨ d = c) := by
  cases ts with
  | nil => exact ⟨c, s, rfl, .inr rfl⟩
  | cons x t => rw [joinTail_cons]; exact ⟨_, _, rfl, .inl rfl⟩
/-- one parameter, and what stands behind it -/
theorem param_cut {v w : Vr} {r s : List UInt8} (hv : v.mayP = true) (hw : w.mayP = true) (hr : ∃ d t, r = d :: t ∧ (d = 44 ∨ d = 41)) (hs : ∃ d t, s = d :: t ∧ (d = 44 ∨ d = 41)) (h : v.param ++ r = w.param ++ s) : v = w ∧ r = s := by
  obtain ⟨d, t, rfl, hd⟩ := hr
  obtain ⟨d', t', rfl, hd'⟩ := hs
  have p : ∀ {x : UInt8}, (x = 44 ∨ x = 41) → isPart x = false ∧ x ≠ 32 := fun hx => by rcases hx with rfl | rfl <;> exact ⟨by decide, by decide⟩
  simp only [Vr.param, List.append_assoc] at h
  obtain ⟨h1, h2⟩ := word_cut _ _ _ _ (name_parts (mayP_parts hv).1).1 (name_parts (mayP_parts hw).1).1 (sec_brk _ _ (p hd).1) (sec_brk _ _ (p hd').1) h
  obtain ⟨h3, h4⟩ := sec_cut (p hd).2 (p hd').2 h2
  exact ⟨param_eq hv hw h1 h3, h4⟩
theorem paramsTail_cut : ∀ (a b : List Vr) (r s : List UInt8), a.all Vr.mayP = true → b.all Vr.mayP = true → Lib.joinTail [44, 32] (a.map Vr.param) ++ 41 :: r = Lib.joinTail [44, 32] (b.map Vr.param) ++ 41 :: s → a = b ∧ r = s
  | [], [], r, s, _, _, h => by simp only [List.map_nil, joinTail_nil, List.nil_append, List.cons.injEq, true_and] at h; exact ⟨rfl, h⟩
  | [], y :: b, r, s, _, _, h => by simp [joinTail_nil, joinTail_cons] at h
  | x :: a, [], r, s, _, _, h => by simp [joinTail_nil, joinTail_cons] at h
  | x :: a, y :: b, r, s, ha, hb, h => by
    simp only [List.map_cons, joinTail_cons, List.cons_append, List.append_assoc, List.cons.injEq, true_and] at h
    simp only [List.all_cons, Bool.and_eq_true] at ha hb
    obtain ⟨h1, h2⟩ := param_cut ha.1 hb.1 (tail_head _ _ _) (tail_head _ _ _) h
    obtain ⟨h3, h4⟩ := paramsTail_cut a b r s ha.2 hb.2 h2
    exact ⟨by rw [h1, h3], h4⟩
theorem param_head {v : Vr} (h : v.mayP = true) (r : List UInt8) : ∃ c s, v.param ++ r = c :: s ∧ c ≠ 41 := by
  obtain ⟨_, ⟨c, s, e, hc⟩, _⟩ := name_parts (mayP_parts h).1
  exact ⟨c, _, by rw [Vr.param, e]; rfl, (let_ne hc).2.2.2.1⟩
theorem params_cut {a b : List Vr} {r s : List UInt8} (ha : a.all Vr.mayP = true) (hb : b.all Vr.mayP = true) (h : Lib.join (a.map Vr.param) [44, 32] ++ 41 :: r = Lib.join (b.map Vr.param) [44, 32] ++ 41 :: s) : a = b ∧ r = s := by
  cases a with
  | nil =>
    cases b with
    | nil => simp only [List.map_nil, Lib.join_nil, List.nil_append, List.cons.injEq, true_and] at h; exact ⟨rfl, h⟩
    | cons y b =>
      simp only [List.all_cons, Bool.and_eq_true] at hb
      obtain ⟨c, t, e, hc⟩ := param_head hb.1 (Lib.joinTail [44, 32] (b.map Vr.param) ++ 41 :: s)
      simp only [List.map_nil, List.map_cons, Lib.join_nil, Lib.join_cons, List.append_assoc, e, List.nil_append, List.cons.injEq] at h
      exact absurd h.1.symm hc
  | cons x a =>
    simp only [List.all_cons, Bool.and_eq_true] at ha
    cases b with
    | nil =>
      obtain ⟨c, t, e, hc⟩ := param_head ha.1 (Lib.joinTail [44, 32] (a.map Vr.param) ++ 41 :: r)
      simp only [List.map_nil, List.map_cons, Lib.join_nil, Lib.join_cons, List.append_assoc, e, List.nil_append, List.cons.injEq] at h
      exact absurd h.1 hc
    | cons y b =>
      simp only [List.all_cons, Bool.and_eq_true] at hb
      simp only [List.map_cons, Lib.join_cons, List.append_assoc] at h
      obtain ⟨h1, h2⟩ := param_cut ha.1 hb.1 (tail_head _ _ _) (tail_head _ _ _) h
      obtain ⟨h3, h4⟩ := paramsTail_cut a b r s ha.2 hb.2 h2
      exact ⟨by rw [h1, h3], h4⟩
/-- a variable's line -/
theorem may_var {v : Vr} (h : v.may = true) : (∃ nm, v = ⟨nm, 1, 0, false⟩ ∧ nameB nm = true) ∨ (∃ nm n sc, (v = ⟨nm, 2, (n : Nat), sc⟩ ∨ v = ⟨nm, 3, (n : Nat), sc⟩) ∧ nameB nm = true) := by
  unfold Vr.may at h
  split at h
  · rename_i hk
    rw [Bool.and_eq_true, Bool.not_eq_true'] at h
    obtain ⟨h1, _, h2⟩ := mayP_parts h.1
    obtain ⟨n, k, s, c⟩ := v
    simp only at hk h1 h2 h
    exact .inl ⟨n, by rw [hk, h2, h.2], h1⟩
  · split at h
    · rename_i _ hk
      rw [Bool.and_eq_true] at h
      have h2 := of_decide_eq_true h.2
      obtain ⟨n, k, s, c⟩ := v
      simp only at hk h h2
      obtain ⟨m, rfl⟩ := Int.eq_ofNat_of_zero_le h2
      refine .inr ⟨n, m, c, ?_, h.1⟩
      rcases hk with rfl | rfl
      · exact .inl rfl
      · exact .inr rfl
    · cases h
theorem line_1 (nm : List UInt8) : (Vr.mk nm 1 0 false).line = [118, 97, 114] ++ 32 :: (nm ++ [59]) := by simp [Vr.line]
theorem line_2 (nm : List UInt8) (n : Nat) (sc : Bool) : (Vr.mk nm 2 (n : Nat) sc).line = [97, 114, 114, 97, 121] ++ 32 :: (nm ++ 32 :: (Lib.decDigits n ++ (secT sc ++ [59]))) := by simp [Vr.line, Vr.word]
theorem line_3 (nm : List UInt8) (n : Nat) (sc : Bool) : (Vr.mk nm 3 (n : Nat) sc).line = [115, 116, 97, 99, 107] ++ 32 :: (nm ++ 32 :: (Lib.decDigits n ++ (secT sc ++ [59]))) := by simp [Vr.line, Vr.word]
theorem b59 (r : List UInt8) : Brk (59 :: r) := brk_of r (by decide)
theorem sized_cut {nm nm' : List UInt8} {n n' : Nat} {sc sc' : Bool} {r s : List UInt8} (hn : nameB nm = true) (hn' : nameB nm' = true) (h : nm ++ 32 :: (Lib.decDigits n ++ (secT sc ++ 59 :: r)) = nm' ++ 32 :: (Lib.decDigits n' ++ (secT sc' ++ 59 :: s))) : nm = nm' ∧ n = n' ∧ sc = sc' := by
  obtain ⟨h1, h2⟩ := word_cut _ _ _ _ (name_parts hn).1 (name_parts hn').1 (b32 _) (b32 _) h
  simp only [List.cons.injEq, true_and] at h2
  obtain ⟨h3, h4⟩ := dec_cut (sec_brk _ _ (by decide)) (sec_brk _ _ (by decide)) h2
  exact ⟨h1, h3, (sec_cut (by decide) (by decide) h4).1⟩
theorem var_cut {v w : Vr} (hv : v.may = true) (hw : w.may = true) (h : v.line = w.line) : v = w := by
  rcases may_var hv with ⟨nm, rfl, hn⟩ | ⟨nm, n, sc, rfl | rfl, hn⟩ <;> rcases may_var hw with ⟨nm', rfl, hn'⟩ | ⟨nm', n', sc', rfl | rfl, hn'⟩
  · rw [line_1, line_1] at h
    simp only [List.cons_append, List.nil_append, List.cons.injEq, true_and] at h
    rw [(word_cut _ _ _ _ (name_parts hn).1 (name_parts hn').1 (b59 _) (b59 _) h).1]
  · rw [line_1, line_2] at h; simp at h
  · rw [line_1, line_3] at h; simp at h
  · rw [line_2, line_1] at h; simp at h
  · rw [line_2, line_2] at h
    simp only [List.cons_append, List.nil_append, List.cons.injEq, true_and] at h
    obtain ⟨rfl, rfl, rfl⟩ := sized_cut hn hn' h; rfl
  · rw [line_2, line_3] at h; simp at h
  · rw [line_3, line_1] at h; simp at h
  · rw [line_3, line_2] at h; simp at h
  · rw [line_3, line_3] at h
    simp only [List.cons_append, List.nil_append, List.cons.injEq, true_and] at h
    obtain ⟨rfl, rfl, rfl⟩ := sized_cut hn hn' h; rfl
theorem line_word {v : Vr} (h : v.may = true) : ∃ w, Word0 w v.line ∧ (w = [118, 97, 114] ∨ w = [97, 114, 114, 97, 121] ∨ w = [115, 116, 97, 99, 107]) := by
  rcases may_var h with ⟨nm, rfl, hn⟩ | ⟨nm, n, sc, rfl | rfl, hn⟩
  · exact ⟨_, ⟨_, line_1 nm, by decide, b32 _⟩, .inl rfl⟩
  · exact ⟨_, ⟨_, line_2 nm n sc, by decide, b32 _⟩, .inr (.inl rfl)⟩
  · exact ⟨_, ⟨_, line_3 nm n sc, by decide, b32 _⟩, .inr (.inr rfl)⟩
/-- what stands behind variables is no variable -/
def NoVar (r : List (Nat × List UInt8)) : Prop := ∀ y s, r = y :: s → ∀ v : Vr, v.may = true → y.2 ≠ v.line
theorem vars_cut : ∀ (a b : List Vr) (r s : List (Nat × List UInt8)), a.all Vr.may = true → b.all Vr.may = true → NoVar r → NoVar s → a.map (fun v => (1, v.line)) ++ r = b.map (fun v => (1, v.line)) ++ s → a = b ∧ r = s
  | [], [], _, _, _, _, _, _, h => ⟨rfl, h⟩
  | [], y :: b, r, s, _, hb, hr, _, h => by
    simp only [List.map_nil, List.map_cons, List.nil_append, List.cons_append] at h
    simp only [List.all_cons, Bool.and_eq_true] at hb
    exact absurd rfl (hr _ _ h y hb.1)
  | x :: a, [], r, s, ha, _, _, hs, h => by
    simp only [List.map_nil, List.map_cons, List.nil_append, List.cons_append] at h
    simp only [List.all_cons, Bool.and_eq_true] at ha
    exact absurd rfl (hs _ _ h.symm x ha.1)
  | x :: a, y :: b, r, s, ha, hb, hr, hs, h => by
    simp only [List.map_cons, List.cons_append, List.cons.injEq, Prod.mk.injEq, true_and] at h
    simp only [List.all_cons, Bool.and_eq_true] at ha hb
    obtain ⟨h3, h4⟩ := vars_cut a b r s ha.2 hb.2 hr hs h.2
    exact ⟨by rw [var_cut ha.1 hb.1 h.1, h3], h4⟩
theorem first_no_var {x : St} (hx : x.may = true) {v : Vr} (hv : v.may = true) : x.first ≠ v.line := by
  intro e
  obtain ⟨w, h1, h2⟩ := (St.shape hx).word
  obtain ⟨u, h3, h4⟩ := line_word hv
  rw [e] at h1
  obtain rfl := h1.uniq h3
  rcases h2 with h2 | h2
  · have := (name_parts h2).2.2
    rcases h4 with rfl | rfl | rfl <;> (revert this; decide)
  · rcases h4 with rfl | rfl | rfl <;> (revert h2; decide)
theorem body_no_var {l : Sts} (hl : l.may = true) (t : Nat) (r : List (Nat × List UInt8)) : NoVar (l.lines t ++ ((0, [125]) :: r)) := by
  intro y s e v hv
  cases l with
  | nil =>
    simp only [Sts.lines, List.nil_append, List.cons.injEq] at e
    rw [← e.1]
    intro h
    obtain ⟨u, ⟨q, h3, _, _⟩, h4⟩ := line_word hv
    rw [h3] at h
    rcases h4 with rfl | rfl | rfl <;> simp at h
  | cons x l =>
    rw [Sts.may, Bool.and_eq_true] at hl
    obtain ⟨kd, nm, ns, e', a, g, lo, hi, bd, el⟩ := x
    simp only [Sts.lines, St.lines, List.cons_append, List.cons.injEq, first_eq] at e
    rw [← e.1]
    exact first_no_var hl.1 hv
theorem can_may {l : Sts} (h : l.can = true) : l.may = true := by unfold Sts.can at h; rw [Bool.and_eq_true] at h; exact h.2
theorem fnc_parts {f : Fnc} (h : f.may = true) : nameB f.name = true ∧ f.params.all Vr.mayP = true ∧ f.vars.all Vr.may = true ∧ namesB f.rets = true ∧ f.body.may = true := by
  unfold Fnc.may at h
  simp only [Bool.and_eq_true] at h
  exact ⟨h.1, h.2.1, h.2.2.1, h.2.2.2.1, can_may h.2.2.2.2⟩
theorem head_form (f : Fnc) : f.head = [102, 110] ++ 32 :: (f.name ++ 40 :: (Lib.join (f.params.map Vr.param) [44, 32] ++ 41 :: ((if f.rets.length = 0 then [] else [32, 45, 62, 32] ++ Lib.join f.rets [44, 32]) ++ [32, 123]))) := by
  simp [Fnc.head]
theorem head_cut {f g : Fnc} (hf : f.may = true) (hg : g.may = true) (h : f.head = g.head) : f.name = g.name ∧ f.params = g.params ∧ f.rets = g.rets := by
  obtain ⟨f1, f2, _, f4, _⟩ := fnc_parts hf
  obtain ⟨g1, g2, _, g4, _⟩ := fnc_parts hg
  rw [head_form, head_form] at h
  simp only [List.cons_append, List.nil_append, List.cons.injEq, true_and] at h
  obtain ⟨h1, h2⟩ := word_cut _ _ _ _ (name_parts f1).1 (name_parts g1).1 (b40 _) (b40 _) h
  simp only [List.cons.injEq, true_and] at h2
  obtain ⟨h3, h4⟩ := params_cut f2 g2 h2
  refine ⟨h1, h3, ?_⟩
  generalize f.rets = a at *
  generalize g.rets = b at *
  cases a with
  | nil =>
    cases b with
    | nil => rfl
    | cons y b => simp at h4
  | cons x a =>
    cases b with
    | nil => simp at h4
    | cons y b =>
      simp only [namesB, List.all_cons, Bool.and_eq_true] at f4 g4
      rw [if_neg (by simp), if_neg (by simp), Lib.join_cons, Lib.join_cons] at h4
      simp only [List.cons_append, List.append_assoc, List.cons.injEq, true_and] at h4
      obtain ⟨h5, h6⟩ := word_cut _ _ _ _ (name_parts f4.1).1 (name_parts g4.1).1 (tail_brk _ _ (by decide)) (tail_brk _ _ (by decide)) h4
      obtain ⟨h7, _⟩ := names_cut _ _ _ _ f4.2 g4.2 h6
      rw [h5, h7]
theorem fnc_cut {f g : Fnc} {r s : List (Nat × List UInt8)} (hf : f.may = true) (hg : g.may = true) (h : f.lines ++ r = g.lines ++ s) : f = g ∧ r = s := by
  obtain ⟨_, _, f3, _, f5⟩ := fnc_parts hf
  obtain ⟨_, _, g3, _, g5⟩ := fnc_parts hg
  simp only [Fnc.lines, List.cons_append, List.append_assoc, List.cons.injEq, Prod.mk.injEq, true_and, List.nil_append] at h
  obtain ⟨h1, h2, h3⟩ := head_cut hf hg h.1
  obtain ⟨h4, h5⟩ := vars_cut _ _ _ _ f3 g3 (body_no_var f5 1 _) (body_no_var g5 1 _) h.2
  obtain ⟨h6, h7⟩ := Sts.cut _ _ _ 1 _ _ (Nat.lt_succ_self _) f5 g5 (close_of _ rfl) (close_of _ rfl) h5
  simp only [List.cons.injEq, true_and] at h7
  obtain ⟨a1, a2, a3, a4, a5⟩ := f
  obtain ⟨b1, b2, b3, b4, b5⟩ := g
  simp only at h1 h2 h3 h4 h6
  exact ⟨by rw [h1, h2, h3, h4, h6], h7⟩
theorem fns_cut : ∀ (a b : List Fnc), a.all Fnc.may = true → b.all Fnc.may = true → a.flatMap Fnc.lines = b.flatMap Fnc.lines → a = b
  | [], [], _, _, _ => rfl
  | [], y :: b, _, _, h => by simp [Fnc.lines] at h
  | x :: a, [], _, _, h => by simp [Fnc.lines] at h
  | x :: a, y :: b, ha, hb, h => by
    simp only [List.all_cons, Bool.and_eq_true] at ha hb
    simp only [List.flatMap_cons] at h
    obtain ⟨h1, h2⟩ := fnc_cut ha.1 hb.1 h
    rw [h1, fns_cut a b ha.2 hb.2 h2]
theorem rgn_parts {r : Rgn} (h : r.may = true) : ∃ nm a n sc, r = ⟨nm, (a : Nat), (n : Nat), sc⟩ ∧ nameB nm = true := by
  unfold Rgn.may at h
  rw [Bool.and_eq_true, Bool.and_eq_true] at h
  have h1 := of_decide_eq_true h.2.1
  have h2 := of_decide_eq_true h.2.2
  obtain ⟨nm, a, n, sc⟩ := r
  simp only at h1 h2 h
  obtain ⟨a', rfl⟩ := Int.eq_ofNat_of_zero_le h1
  obtain ⟨n', rfl⟩ := Int.eq_ofNat_of_zero_le h2
  exact ⟨nm, a', n', sc, rfl, h.1⟩
theorem rline_form (nm : List UInt8) (a n : Nat) (sc : Bool) : (Rgn.mk nm (a : Nat) (n : Nat) sc).line = [114, 101, 103, 105, 111, 110] ++ 32 :: (nm ++ 32 :: (Lib.decDigits a ++ 32 :: (Lib.decDigits n ++ (secT sc ++ [59])))) := by simp [Rgn.line]
theorem rgn_cut {r s : Rgn} (hr : r.may = true) (hs : s.may = true) (h : r.line = s.line) : r = s := by
  obtain ⟨nm, a, n, sc, rfl, hn⟩ := rgn_parts hr
  obtain ⟨nm', a', n', sc', rfl, hn'⟩ := rgn_parts hs
  rw [rline_form, rline_form] at h
  simp only [List.cons_append, List.nil_append, List.cons.injEq, true_and] at h
  obtain ⟨h1, h2⟩ := word_cut _ _ _ _ (name_parts hn).1 (name_parts hn').1 (b32 _) (b32 _) h
  simp only [List.cons.injEq, true_and] at h2
  obtain ⟨h3, h4⟩ := dec_cut (b32 _) (b32 _) h2
  simp only [List.cons.injEq, true_and] at h4
  obtain ⟨h5, h6⟩ := dec_cut (sec_brk _ _ (by decide)) (sec_brk _ _ (by decide)) h4
  rw [h1, h3, h5, (sec_cut (by decide) (by decide) h6).1]
theorem regs_cut : ∀ (a b : List Rgn) (f g : List Fnc), a.all Rgn.may = true → b.all Rgn.may = true → a.map (fun r => (0, r.line)) ++ f.flatMap Fnc.lines = b.map (fun r => (0, r.line)) ++ g.flatMap Fnc.lines → a = b ∧ f.flatMap Fnc.lines = g.flatMap Fnc.lines
  | [], [], _, _, _, _, h => ⟨rfl, h⟩
  | [], y :: b, f, g, _, hb, h => by
    simp only [List.all_cons, Bool.and_eq_true] at hb
    obtain ⟨nm, a, n, sc, rfl, hn⟩ := rgn_parts hb.1
    simp only [List.map_nil, List.map_cons, List.nil_append, List.cons_append, rline_form] at h
    cases f with
    | nil => simp at h
    | cons x f => simp [Fnc.lines, head_form] at h
  | x :: a, [], f, g, ha, _, h => by
    simp only [List.all_cons, Bool.and_eq_true] at ha
    obtain ⟨nm, a', n, sc, rfl, hn⟩ := rgn_parts ha.1
    simp only [List.map_nil, List.map_cons, List.nil_append, List.cons_append, rline_form] at h
    cases g with
    | nil => simp at h
    | cons x g => simp [Fnc.lines, head_form] at h
  | x :: a, y :: b, f, g, ha, hb, h => by
    simp only [List.map_cons, List.cons_append, List.cons.injEq, Prod.mk.injEq, true_and] at h
    simp only [List.all_cons, Bool.and_eq_true] at ha hb
    obtain ⟨h3, h4⟩ := regs_cut a b f g ha.2 hb.2 h.2
    exact ⟨by rw [rgn_cut ha.1 hb.1 h.1, h3], h4⟩
theorem prg_cut {p q : Prg} (hp : p.may = true) (hq : q.may = true) (h : p.lines = q.lines) : p = q := by
  unfold Prg.may at hp hq
  rw [Bool.and_eq_true] at hp hq
  obtain ⟨a, f⟩ := p
  obtain ⟨b, g⟩ := q
  simp only [Prg.lines] at h hp hq
  obtain ⟨h1, h2⟩ := regs_cut a b f g hp.1 hq.1 h
  rw [h1, fns_cut f g hp.2 hq.2 h2]

/-- a line's text: no end of line in it, no tab ahead -/
def Ln (s : List UInt8) : Prop := (∀ c ∈ s, c ≠ 10) ∧ ∃ c r, s = c :: r ∧ c ≠ 9
theorem line_cut {x y : Nat × List UInt8} {r s : List UInt8} (hx : Ln x.2) (hy : Ln y.2) (h : lineT x ++ r = lineT y ++ s) : x = y ∧ r = s := by
  obtain ⟨a, p⟩ := x
  obtain ⟨b, q⟩ := y
  obtain ⟨hx1, c, p', rfl, hc⟩ := hx
  obtain ⟨hy1, d, q', rfl, hd⟩ := hy
  simp only [lineT, List.append_assoc] at h
  have tabs : ∀ (a b : Nat) (u v : List UInt8), List.replicate a 9 ++ (c :: u) = List.replicate b 9 ++ (d :: v) → a = b ∧ c :: u = d :: v := by
    intro a
    induction a with
    | zero =>
      intro b u v h
      cases b with
      | zero => exact ⟨rfl, h⟩
      | succ b => simp only [List.replicate_zero, List.nil_append, List.replicate_succ, List.cons_append, List.cons.injEq] at h; exact absurd h.1 hc
    | succ a ih =>
      intro b u v h
      cases b with
      | zero => simp only [List.replicate_zero, List.nil_append, List.replicate_succ, List.cons_append, List.cons.injEq] at h; exact absurd h.1.symm hd
      | succ b =>
        simp only [List.replicate_succ, List.cons_append, List.cons.injEq, true_and] at h
        obtain ⟨h1, h2⟩ := ih b u v h
        exact ⟨by rw [h1], h2⟩
  have nl : ∀ (u v r s : List UInt8), (∀ c ∈ u, c ≠ 10) → (∀ c ∈ v, c ≠ 10) → u ++ 10 :: r = v ++ 10 :: s → u = v ∧ r = s := by
    intro u
    induction u with
    | nil =>
      intro v r s _ hv h
      cases v with
      | nil => simp only [List.nil_append, List.cons.injEq, true_and] at h; exact ⟨rfl, h⟩
      | cons y v => simp only [List.nil_append, List.cons_append, List.cons.injEq] at h; exact absurd h.1.symm (hv y (by simp))
    | cons x u ih =>
      intro v r s hu hv h
      cases v with
      | nil => simp only [List.nil_append, List.cons_append, List.cons.injEq] at h; exact absurd h.1 (hu x (by simp))
      | cons y v =>
        simp only [List.cons_append, List.cons.injEq] at h
        obtain ⟨h1, h2⟩ := ih v r s (fun c hc => hu c (by simp [hc])) (fun c hc => hv c (by simp [hc])) h.2
        exact ⟨by rw [h.1, h1], h2⟩
  simp only [List.cons_append] at h
  obtain ⟨h1, h2⟩ := tabs _ _ _ _ h
  obtain ⟨h3, h4⟩ := nl (c :: p') (d :: q') r s hx1 hy1 (by simpa using h2)
  exact ⟨by rw [h1, h3], h4⟩
theorem lines_cut : ∀ (l m : List (Nat × List UInt8)), (∀ x ∈ l, Ln x.2) → (∀ x ∈ m, Ln x.2) → linesT l = linesT m → l = m
  | [], [], _, _, _ => rfl
  | [], y :: m, _, _, h => by
    have := congrArg List.length h
    simp [linesT, lineT] at this
  | x :: l, [], _, _, h => by
    have := congrArg List.length h
    simp [linesT, lineT] at this
  | x :: l, y :: m, hl, hm, h => by
    simp only [linesT, List.flatMap_cons] at h
    obtain ⟨h1, h2⟩ := line_cut (hl x (by simp)) (hm y (by simp)) h
    rw [h1, lines_cut l m (fun z hz => hl z (by simp [hz])) (fun z hz => hm z (by simp [hz])) h2]
/-- no end of line -/
def Nl (s : List UInt8) : Prop := ∀ c ∈ s, c ≠ 10
instance nlDec (s : List UInt8) : Decidable (Nl s) := inferInstanceAs (Decidable (∀ c ∈ s, c ≠ 10))
theorem Nl.nil : Nl [] := fun _ h => by cases h
theorem Nl.cons {c : UInt8} {s : List UInt8} (h : c ≠ 10) (k : Nl s) : Nl (c :: s) := fun d hd => by
  rw [List.mem_cons] at hd
  rcases hd with rfl | hd
  · exact h
  · exact k d hd
theorem Nl.app {a b : List UInt8} (h : Nl a) (k : Nl b) : Nl (a ++ b) := fun d hd => by
  rw [List.mem_append] at hd
  rcases hd with hd | hd
  · exact h d hd
  · exact k d hd
theorem nl_parts {s : List UInt8} (h : s.all isPart = true) : Nl s := fun c hc e => by
  rw [List.all_eq_true] at h
  have := h c hc
  rw [e] at this; revert this; decide
theorem nl_name {s : List UInt8} (h : nameB s = true) : Nl s := nl_parts (name_parts h).1
theorem nl_dec (n : Nat) : Nl (Lib.decDigits n) := nl_parts (dec_parts n).1
theorem nl_sec (b : Bool) : Nl (secT b) := by cases b <;> decide
theorem nl_sign {o : Int} (h1 : 6 ≤ o) (h2 : o ≤ 20) : Nl (signOf o) := by
  rcases fifteen h1 h2 with rfl | rfl | rfl | rfl | rfl | rfl | rfl | rfl | rfl | rfl | rfl | rfl | rfl | rfl | rfl <;> decide
theorem Ex.nl : ∀ (n : Nat) (x : Ex), x.size < n → x.may = true → Nl x.text
  | 0, _, h, _ => absurd h (Nat.not_lt_zero _)
  | n + 1, x, hsz, hx => by
    have ih := Ex.nl n
    have H := Ex.shape hx
    clear hx
    generalize x.text = t at *
    cases H with
    | const wd => exact nl_dec wd
    | var nm hn => exact nl_name hn
    | index nm hn y hy => exact (nl_name hn).app (.cons (by decide) ((ih y (by simp only [Ex.size, Exs.size] at hsz; omega) hy).app (by decide)))
    | not y hy => exact .cons (by decide) (ih y (by simp only [Ex.size, Exs.size] at hsz; omega) hy)
    | neg y hy => exact .cons (by decide) (ih y (by simp only [Ex.size, Exs.size] at hsz; omega) hy)
    | pick x y z hx hy hz =>
      exact Nl.app (by decide) (.cons (by decide) ((ih x (by simp only [Ex.size, Exs.size] at hsz; omega) hx).app (.cons (by decide) (.cons (by decide)
        ((ih y (by simp only [Ex.size, Exs.size] at hsz; omega) hy).app (.cons (by decide) (.cons (by decide) ((ih z (by simp only [Ex.size, Exs.size] at hsz; omega) hz).app (by decide)))))))))
    | two op h1 h2 x y hx hy =>
      exact .cons (by decide) ((ih x (by simp only [Ex.size, Exs.size] at hsz; omega) hx).app (.cons (by decide) ((nl_sign h1 h2).app (.cons (by decide) ((ih y (by simp only [Ex.size, Exs.size] at hsz; omega) hy).app (by decide))))))
theorem ex_nl {x : Ex} (h : x.may = true) : Nl x.text := Ex.nl _ x (Nat.lt_succ_self _) h
theorem nl_tail : ∀ (l : List (List UInt8)), (∀ x ∈ l, Nl x) → Nl (Lib.joinTail [44, 32] l)
  | [], _ => Nl.nil
  | x :: r, h => by rw [joinTail_cons]; exact .cons (by decide) (.cons (by decide) ((h x (by simp)).app (nl_tail r fun y hy => h y (by simp [hy]))))
theorem nl_join (l : List (List UInt8)) (h : ∀ x ∈ l, Nl x) : Nl (Lib.join l [44, 32]) := by
  cases l with
  | nil => exact Nl.nil
  | cons x r => rw [Lib.join_cons]; exact (h x (by simp)).app (nl_tail r fun y hy => h y (by simp [hy]))
theorem names_nl {l : List (List UInt8)} (h : namesB l = true) : ∀ x ∈ l, Nl x := fun x hx => by
  unfold namesB at h
  rw [List.all_eq_true] at h
  exact nl_name (h x hx)
theorem exs_nl : ∀ (a : Exs), a.may = true → ∀ t ∈ a.texts, Nl t
  | .nil, _ => fun _ h => by cases h
  | .cons x r, h => by
    rw [Exs.may, Bool.and_eq_true] at h
    intro t ht
    simp only [Exs.texts, List.mem_cons] at ht
    rcases ht with rfl | ht
    · exact ex_nl h.1
    · exact exs_nl r h.2 t ht
theorem first_nl {x : St} (h : x.may = true) : Nl x.first := by
  have H := St.shape h
  clear h
  generalize x.first = t at *
  cases H with
  | set nm hn e he => exact (nl_name hn).app (.cons (by decide) (.cons (by decide) (.cons (by decide) ((ex_nl he).app (by decide)))))
  | put nm hn a ha e he => exact (nl_name hn).app (.cons (by decide) ((ex_nl ha).app (.cons (by decide) (.cons (by decide) (.cons (by decide) (.cons (by decide) ((ex_nl he).app (by decide))))))))
  | ifs e he bd el hb hl => exact Nl.app (by decide) (.cons (by decide) ((ex_nl he).app (by decide)))
  | whl e he bd hb => exact Nl.app (by decide) (.cons (by decide) ((ex_nl he).app (by decide)))
  | «for» nm hn lo hi bd hb => exact Nl.app (by decide) (.cons (by decide) ((nl_name hn).app (.cons (by decide) ((nl_dec lo).app (.cons (by decide) ((nl_dec hi).app (by decide)))))))
  | call nm hn g hg => exact (nl_name hn).app (.cons (by decide) ((nl_join _ (exs_nl g hg)).app (by decide)))
  | calls n0 h0 ns hs nm hn g hg => exact (nl_name h0).app ((nl_tail _ (names_nl hs)).app (.cons (by decide) (.cons (by decide) (.cons (by decide) ((nl_name hn).app (.cons (by decide) ((nl_join _ (exs_nl g hg)).app (by decide))))))))
theorem word_ln {w t : List UInt8} (h : Word0 w t) (hw : w ≠ []) : ∃ c r, t = c :: r ∧ c ≠ 9 := by
  obtain ⟨r, rfl, h1, _⟩ := h
  cases w with
  | nil => exact absurd rfl hw
  | cons c s =>
    rw [List.all_cons, Bool.and_eq_true] at h1
    refine ⟨c, s ++ r, rfl, fun e => ?_⟩
    rw [e] at h1; exact absurd h1.1 (by decide)
theorem first_ln {x : St} (h : x.may = true) : Ln x.first := by
  obtain ⟨w, h1, h2⟩ := (St.shape h).word
  refine ⟨first_nl h, word_ln h1 ?_⟩
  rintro rfl
  rcases h2 with h2 | h2 <;> (revert h2; decide)
theorem ln_125 : Ln [125] := ⟨by decide, _, _, rfl, by decide⟩
theorem ln_else : Ln elseT := ⟨by decide, _, _, rfl, by decide⟩
mutual
theorem St.lines_ln : ∀ (x : St) (t : Nat), x.may = true → ∀ y ∈ x.lines t, Ln y.2
  | .mk kd nm ns e a g lo hi bd el, t, h => by
    have hf := first_ln h
    have hB := may_block h
    have hb := Sts.lines_ln bd (t + 1) hB.1
    have hl := Sts.lines_ln el (t + 1) hB.2.1
    intro y hy
    simp only [St.lines, List.mem_cons, first_eq] at hy
    rcases hy with rfl | hy
    · exact hf
    · split at hy
      · rw [List.mem_append, List.mem_append] at hy
        rcases hy with hy | hy | hy
        · exact hb y hy
        · split at hy
          · cases hy
          · rw [List.mem_cons] at hy
            rcases hy with rfl | hy
            · exact ln_else
            · exact hl y hy
        · rw [List.mem_singleton] at hy
          subst hy
          exact ln_125
      · cases hy
theorem Sts.lines_ln : ∀ (l : Sts) (t : Nat), l.may = true → ∀ y ∈ l.lines t, Ln y.2
  | .nil, _, _ => fun _ h => by cases h
  | .cons x r, t, h => by
    rw [Sts.may, Bool.and_eq_true] at h
    intro y hy
    simp only [Sts.lines, List.mem_append] at hy
    rcases hy with hy | hy
    · exact St.lines_ln x t h.1 y hy
    · exact Sts.lines_ln r t h.2 y hy
end
theorem var_ln {v : Vr} (h : v.may = true) : Ln v.line := by
  obtain ⟨w, h1, h2⟩ := line_word h
  refine ⟨?_, word_ln h1 (by rcases h2 with rfl | rfl | rfl <;> simp)⟩
  rcases may_var h with ⟨nm, rfl, hn⟩ | ⟨nm, n, sc, rfl | rfl, hn⟩
  · rw [line_1]; exact Nl.app (by decide) (.cons (by decide) ((nl_name hn).app (by decide)))
  · rw [line_2]; exact Nl.app (by decide) (.cons (by decide) ((nl_name hn).app (.cons (by decide) ((nl_dec n).app ((nl_sec sc).app (by decide))))))
  · rw [line_3]; exact Nl.app (by decide) (.cons (by decide) ((nl_name hn).app (.cons (by decide) ((nl_dec n).app ((nl_sec sc).app (by decide))))))
theorem rgn_ln {r : Rgn} (h : r.may = true) : Ln r.line := by
  obtain ⟨nm, a, n, sc, rfl, hn⟩ := rgn_parts h
  rw [rline_form]
  exact ⟨Nl.app (by decide) (.cons (by decide) ((nl_name hn).app (.cons (by decide) ((nl_dec a).app (.cons (by decide) ((nl_dec n).app ((nl_sec sc).app (by decide)))))))), _, _, rfl, by decide⟩
theorem head_ln {f : Fnc} (h : f.may = true) : Ln f.head := by
  obtain ⟨f1, f2, _, f4, _⟩ := fnc_parts h
  rw [head_form]
  refine ⟨Nl.app (by decide) (.cons (by decide) ((nl_name f1).app (.cons (by decide) (Nl.app (nl_join _ ?_) (.cons (by decide) (Nl.app ?_ (by decide))))))), _, _, rfl, by decide⟩
  · intro x hx
    rw [List.mem_map] at hx
    obtain ⟨v, hv, rfl⟩ := hx
    rw [List.all_eq_true] at f2
    exact (nl_name (mayP_parts (f2 v hv)).1).app (nl_sec _)
  · split
    · exact Nl.nil
    · exact Nl.app (by decide) (nl_join _ (names_nl f4))
theorem fnc_ln {f : Fnc} (h : f.may = true) : ∀ y ∈ f.lines, Ln y.2 := by
  obtain ⟨_, _, f3, _, f5⟩ := fnc_parts h
  intro y hy
  simp only [Fnc.lines, List.mem_cons, List.mem_append, List.mem_map, List.not_mem_nil, or_false] at hy
  rcases hy with rfl | ⟨v, hv, rfl⟩ | hy | rfl
  · exact head_ln h
  · rw [List.all_eq_true] at f3; exact var_ln (f3 v hv)
  · exact Sts.lines_ln _ _ f5 y hy
  · exact ln_125
theorem prg_ln {p : Prg} (h : p.may = true) : ∀ y ∈ p.lines, Ln y.2 := by
  unfold Prg.may at h
  rw [Bool.and_eq_true, List.all_eq_true, List.all_eq_true] at h
  intro y hy
  simp only [Prg.lines, List.mem_append, List.mem_map, List.mem_flatMap] at hy
  rcases hy with ⟨r, hr, rfl⟩ | ⟨f, hf, hy⟩
  · exact rgn_ln (h.1 r hr)
  · exact fnc_ln (h.2 f hf) y hy
/-- THE TEXTS OF TWO PROGRAMS THAT CAN BE TOLD ARE ONE JUST IF THEY ARE -/
theorem text_apart {p q : Prg} (hp : p.may = true) (hq : q.may = true) : p.text = q.text ↔ p = q :=
  ⟨fun h => prg_cut hp hq (lines_cut _ _ (prg_ln hp) (prg_ln hq) h), fun h => by rw [h]⟩
end Go.Proofs.YtlhbledakddbbaaGreatDoor
/- The law on tabs and braces: its walk. -/
namespace Go.Proofs.YtlhbledakddbbaaGreatDoor
open Go.RowKit
attribute [local go_sem] Oper.semAt_some

theorem neq_nil1 (q : Option Addr) (w : World) : (binOp .eql 57 (.func (.func 107) #[] #[.pointer q]) .nilFunc).run Tryz.prog w = .ok (.bool false) w := by kernel_rfl
theorem neq_nil0 (w : World) : (binOp .eql 57 (.func (.func 71) #[] #[]) .nilFunc).run Tryz.prog w = .ok (.bool false) w := by kernel_rfl
theorem byte_at (s : List UInt8) (i : Nat) (h : i < (str s).size) : ((str s)[i]'h).toNat = (s.getD i 0).toNat := by
  have hs : i < s.length := by have := h; rw [size_str] at this; exact this
  have : (str s)[i]'h = s[i]'hs := by simp [str, ByteArray.getElem_eq_getElem_data]
  rw [this, List.getD_eq_getElem?_getD, List.getElem?_eq_getElem hs]
  rfl
set_option maxRecDepth 100000 in
set_option maxHeartbeats 6400000 in
theorem tabs_long (l : Sts) (p : Option Addr) (c : Nat) (w : World) (hG : Glob w) (h : l.In w w.heap.size p) (hl : 5000 < l.total) :
    Calls Tryz.prog 7 #[.slice p l.len c] w fun e w' => e = .returned (.bool true) ∧ Below w.heap.size w w' := by
  have HL := Lib.hid (fun (w1 : World) (hB : Below w.heap.size w w1) => longSts_any l 5000 (Nat.le_refl _) p c w.heap.size w1 (h.later hB (Nat.le_refl _)) hB.size)
  rw [decide_eq_true hl] at HL
  have HK := Lib.hid (fun w' (h : Below w.heap.size w w') => known_any w' (hG.later h))
  clear h hG
  refine (callsIn_wide (n := 4)).1 ?_
  refine callsIn_of_wp_marks Tryz.func7 rfl trivial ?_ rfl
  simp only [Tryz.ntmps7, List.size_toArray, List.length_cons, List.length_nil, Nat.reduceAdd, Nat.reduceSub, Array.replicate_succ, Array.replicate_zero, List.push_toArray, List.append_toArray, List.nil_append, List.cons_append]
  gi_wp2_with fail
  obtain ⟨w1, hw1⟩ : ∃ w1, w.alloc (.cells #[.bool false] 4) = w1 := ⟨_, rfl⟩
  have hB1 : Below w.heap.size w w1 := by rw [← hw1]; exact (Below.refl _ w).alloc (Nat.le_refl _) _
  have k1 : w1.heap[w.heap.size]? = some (.cells #[.bool false] 4 (0, 0)) := by rw [← hw1]; exact heap_alloc_new w _
  rw [hw1]
  clear hw1
  refine ⟨trivial, ?_⟩
  refine (callsIn_wide.2 (HL.out w1 hB1)).mono ?_
  rintro e w2 ⟨rfl, hB2⟩
  have hB2' := hB1.trans (hB2.mono hB1.size)
  have k2 := (hB2.block _ (lt_of_block k1)).trans k1
  gi_wp2_with fail
  refine ⟨trivial, ?_⟩
  refine (callsIn_wide.2 (HK.out w2 hB2')).mono ?_
  rintro e w3 ⟨rfl, hB3⟩
  have k3 := (hB3.block _ (lt_of_block k2)).trans k2
  have c3 := cell_of_one k3
  have f3 := free_of_one k3
  have HB3 := Lib.hid (hB2'.trans (hB3.mono hB2'.size))
  clear hB1 hB2 hB2' hB3 k1 k2
  gi_wp2_with fail
  have d1 : (w3.setCell ⟨w.heap.size, 0, none⟩ (.bool true)).cell? ⟨w.heap.size, 0, none⟩ = some (.bool true) := cell_of_one (one_setCell k3)
  refine ⟨.bool true, ?_, rfl, HB3.out.setCell (p := ⟨w.heap.size, 0, none⟩) (Nat.le_refl _) _⟩
  simp [results, Tryz.results7, go_sem, d1]

/-- what stays in a round -/
def TbS (w3 : World) (B nd d : Nat) (W V : World) (v : Int) : Prop := Up B W V ∧ Below w3.heap.size w3 V ∧ V.heap[nd]? = some (.cells #[.int .i64 (d : Int)] 3 (0, 0)) ∧ V.heap[nd + 1]? = some (.cells #[.int .i64 v] 3 (0, 0))
theorem TbS.set {w3 : World} {B nd d : Nat} {W V : World} {v0 v : Int} (h : TbS w3 B nd d W V v0) (h1 : w3.heap.size ≤ nd) (h2 : nd + 1 < B) : TbS w3 B nd d W (V.setCell ⟨nd + 1, 0, none⟩ (.int .i64 v)) v :=
  ⟨h.1.setCell (p := ⟨nd + 1, 0, none⟩) h2 _, h.2.1.setCell (p := ⟨nd + 1, 0, none⟩) (by show w3.heap.size ≤ nd + 1; omega) _, (Below.heap_setCell _ _ _ _ (by show nd ≠ nd + 1; omega)).trans h.2.2.1, one_setCell h.2.2.2⟩
set_option maxRecDepth 100000 in
set_option maxHeartbeats 6400000 in
theorem tabs_main (gf : FuncId) (heg : ∀ args w, (callFunc gf args).run Tryz.prog w = .ok (.enter gf args) w) (Ls : List (Nat × List UInt8)) (l : Sts) (p : Option Addr) (c : Nat) (w : World) (hG : Glob w) (h : l.In w w.heap.size p) (hl : ¬ 5000 < l.total)
    (hLn : ∀ w1, Below w.heap.size w w1 → Calls Tryz.prog 28 #[.slice p l.len c] w1 fun e w' => (∃ lb, e = .returned (.func (.func gf) #[] lb) ∧ (∀ W : World, (binOp .eql 57 (.func (.func gf) #[] lb) .nilFunc).run Tryz.prog W = .ok (.bool false) W) ∧ ∀ n W, Below w'.heap.size w' W → SeqOwn (fun A => Below w'.heap.size w' A) Fence.wide n Tryz.prog gf lb encL Ls W) ∧ Below w1.heap.size w1 w')
    (hF : ∀ (k : Nat) (x : Nat × List UInt8), Ls[k]? = some x → x.2 ≠ [] ∧ (x.1 : Int) = shutO (openT (Ls.take k) 0) x.2 ∧ openT (Ls.take (k + 1)) 0 = stepO (openT (Ls.take k) 0) x.2 ∧ x.1 < l.deep ∧ x.1 ≤ 1000 ∧ x.2.length ≤ 1000000) (hE : openT Ls 0 = 0) :
    Calls Tryz.prog 7 #[.slice p l.len c] w fun e w' => e = .returned (.bool true) ∧ Below w.heap.size w w' := by
  have HL := Lib.hid (fun (w1 : World) (hB : Below w.heap.size w w1) => longSts_any l 5000 (Nat.le_refl _) p c w.heap.size w1 (h.later hB (Nat.le_refl _)) hB.size)
  rw [decide_eq_false hl] at HL
  have h6 : l.wt ≤ 1000000 := by have := Sts.wt_total l; omega
  have HD := Lib.hid (fun (w1 : World) (hB : Below w.heap.size w w1) => deepS_any l h6 p c w.heap.size w1 (h.later hB (Nat.le_refl _)) hB.size)
  have HK := Lib.hid (fun w' (h : Below w.heap.size w w') => known_any w' (hG.later h))
  have HLn := Lib.hid hLn
  have HF := Lib.hid hF
  have HE := Lib.hid hE
  clear h hG hLn hF hE hl h6
  refine (callsIn_wide (n := 4)).1 ?_
  refine callsIn_of_wp_marks Tryz.func7 rfl trivial ?_ rfl
  simp only [Tryz.ntmps7, List.size_toArray, List.length_cons, List.length_nil, Nat.reduceAdd, Nat.reduceSub, Array.replicate_succ, Array.replicate_zero, List.push_toArray, List.append_toArray, List.nil_append, List.cons_append]
  gi_wp2_with fail
  obtain ⟨w1, hw1⟩ : ∃ w1, w.alloc (.cells #[.bool false] 4) = w1 := ⟨_, rfl⟩
  have hB1 : Below w.heap.size w w1 := by rw [← hw1]; exact (Below.refl _ w).alloc (Nat.le_refl _) _
  have k1 : w1.heap[w.heap.size]? = some (.cells #[.bool false] 4 (0, 0)) := by rw [← hw1]; exact heap_alloc_new w _
  rw [hw1]
  clear hw1
  refine ⟨trivial, ?_⟩
  refine (callsIn_wide.2 (HL.out w1 hB1)).mono ?_
  rintro e w2 ⟨rfl, hB2⟩
  have hB2' := hB1.trans (hB2.mono hB1.size)
  have k2 := (hB2.block _ (lt_of_block k1)).trans k1
  gi_wp2_with fail
  refine ⟨trivial, ?_⟩
  refine (callsIn_wide.2 (HLn.out w2 hB2')).mono ?_
  rintro e w3 ⟨⟨lb, rfl, hne, hseq⟩, hB3⟩
  have hB3' := hB2'.trans (hB3.mono hB2'.size)
  have k3 := (hB3.block _ (lt_of_block k2)).trans k2
  have HSeq := Lib.hid hseq
  have neq := hne
  clear hseq hne
  gi_wp2_with fail
  refine ⟨trivial, ?_⟩
  refine (callsIn_wide.2 (HD.out w3 hB3')).mono ?_
  rintro e w4 ⟨rfl, hB4⟩
  clear neq
  gi_wp2_with fail
  obtain ⟨w5, hw5⟩ : ∃ w5, (w4.alloc (.cells #[.int .i64 (l.deep : Int)] 3)).alloc (.cells #[.int .i64 0] 3) = w5 := ⟨_, rfl⟩
  have hB5 : Below w4.heap.size w4 w5 := by rw [← hw5]; exact ((Below.refl _ w4).alloc (Nat.le_refl _) _).alloc (by simp) _
  have kd : w5.heap[w4.heap.size]? = some (.cells #[.int .i64 (l.deep : Int)] 3 (0, 0)) := by rw [← hw5, Below.heap_alloc _ _ _ (by simp)]; exact heap_alloc_new w4 _
  have ko : w5.heap[w4.heap.size + 1]? = some (.cells #[.int .i64 0] 3 (0, 0)) := by
    rw [← hw5]; have := heap_alloc_new (w4.alloc (.cells #[.int .i64 (l.deep : Int)] 3)) (.cells #[.int .i64 0] 3); simpa using this
  rw [hw5]
  have hz1 := lt_of_block k1
  have hz3 := lt_of_block k3
  have hz34 := hB4.size
  have hz45 := hB5.size
  have hzo := lt_of_block ko
  have hB35 : Below w3.heap.size w3 w5 := hB4.trans (hB5.mono hz34)
  have HI := Lib.hid (show Below w3.heap.size w3 w5 ∧ w5.heap[w4.heap.size]? = some (.cells #[.int .i64 (l.deep : Int)] 3 (0, 0)) ∧ w5.heap[w4.heap.size + 1]? = some (.cells #[.int .i64 (openT (Ls.take 0) 0)] 3 (0, 0)) from ⟨hB35, kd, ko⟩)
  have HK3 := Lib.hid k3
  have HB3 := Lib.hid hB3'
  clear hw5 hB1 hB2 hB2' hB3 hB3' hB4 hB5 k1 k2 k3 kd ko HL HLn HD
  generalize w4.heap.size = nd at *
  refine range_own (F := Fence.wide) rfl (by omega) (gf := gf) (lb := lb) rfl trivial heg
    (HSeq.out (4 - 1) w5 hB35) (Below.refl _ w5) (fun _ => rfl)
    (fun k W => Below w3.heap.size w3 W ∧ W.heap[nd]? = some (.cells #[.int .i64 (l.deep : Int)] 3 (0, 0)) ∧ W.heap[nd + 1]? = some (.cells #[.int .i64 (openT (Ls.take k) 0)] 3 (0, 0)))
    (fun _ _ _ => False) (fun k A h => h.1)
    (fun k A B h hAB => ⟨h.1.trans (hAB.bel.mono (by omega)), (hAB.bel.block _ (by omega)).trans h.2.1, (hAB.bel.block _ (by omega)).trans h.2.2⟩)
    (fun _ _ _ _ h _ => h) HI.out (fun _ _ _ => True) (fun _ _ _ _ _ _ => trivial) ?_ ?_ ?_ ?_ ?_
  rotate_left
  · intro l' k y W K hx hi hW hK
    simp only [encL]
    simp only [List.zip_toArray, List.zip_cons_cons, List.zip_nil_left]
    gi_wp2_with fail
    obtain ⟨bb, _⟩ : ∃ bb : Nat, bb = 0 := ⟨_, rfl⟩
    exact hK bb _ (Below.refl _ _) trivial
  · intro l' k y bb W hx hi hA hW
    obtain ⟨tb, ln⟩ := y
    obtain ⟨hnn, htb, hst, hlt, ht9, hll⟩ := HF.out k _ hx
    simp only [] at hnn htb hst hlt ht9 hll
    obtain ⟨hb, kd, ko⟩ := hi
    have HI := Lib.hid (And.intro hb (And.intro kd ko))
    have c4 := cell_of_one kd
    have c5 := cell_of_one ko
    have f5 := free_of_one ko
    generalize openT (Ls.take k) 0 = ot at *
    have hn0 : 0 < ln.length := List.length_pos_iff.2 hnn
    have hsz : (str ln).size = ln.length := size_str ln
    have g0 : ¬ ((tb : Int) < 0) := by omega
    have g1 : ¬ ((l.deep : Int) ≤ (tb : Int)) := by omega
    have g2 : ¬ ((ln.length : Int) = 0) := by omega
    have HSt := Lib.hid hst
    have g3 : ((ln.length : Int) == 0) = false := by simp; omega
    obtain ⟨c0, hc0⟩ : ∃ c0, (ln.getD 0 0).toNat = c0 := ⟨_, rfl⟩
    obtain ⟨cL, hcL⟩ : ∃ cL, (ln.getD (ln.length - 1) 0).toNat = cL := ⟨_, rfl⟩
    have e0 : ∀ h, ((str ln)[0]'h).toNat = c0 := fun h => (byte_at ln 0 h).trans hc0
    have eL : ∀ h, ((str ln)[ln.length - 1]'h).toNat = cL := fun h => (byte_at ln _ h).trans hcL
    have gL : (0 : Int) ≤ (ln.length : Int) - 1 := by omega
    have gM : (ln.length : Int) - 1 < (ln.length : Int) := by omega
    have hhd : (ln.headD 0 = 125 ↔ c0 = 125) := by
      rw [← hc0]
      cases ln with
      | nil => exact absurd rfl hnn
      | cons a r => simp only [List.headD_cons, List.getD_cons_zero]; exact ⟨fun h => by rw [h]; rfl, fun h => UInt8.toNat_inj.1 h⟩
    have hls : (ln.getLastD 0 = 123 ↔ cL = 123) := by
      have : ln.getLastD 0 = ln.getD (ln.length - 1) 0 := by rw [List.getLastD_eq_getLast?, List.getLast?_eq_getElem?, List.getD_eq_getElem?_getD]
      rw [this, ← hcL]
      exact ⟨fun h => by rw [h]; rfl, fun h => UInt8.toNat_inj.1 h⟩
    have htt : (if c0 = 125 then ot - 1 else ot) = (tb : Int) := by
      rw [htb, shutO]
      by_cases h : c0 = 125
      · rw [if_pos h, if_pos (hhd.2 h)]
      · rw [if_neg h, if_neg (fun e => h (hhd.1 e))]
    have HNx := Lib.hid (show openT (Ls.take (k + 1)) 0 = if cL = 123 then (tb : Int) + 1 else (tb : Int) from by
      rw [hst, stepO, ← htb]
      by_cases h : cL = 123
      · rw [if_pos h, if_pos (hls.2 h)]
      · rw [if_neg h, if_neg (fun e => h (hls.1 e))])
    clear hb kd ko hx hA hst htb hc0 hcL hhd hls hnn
    have HS0 : TbS w3 w5.heap.size nd l.deep W W ot := ⟨Up.refl _ _, HI.out.1, HI.out.2.1, HI.out.2.2⟩
    have HSS := Lib.hid HS0
    clear HS0
    by_cases q0 : c0 = 125
    · rw [if_pos q0] at htt
      obtain rfl : ot = (tb : Int) + 1 := by omega
      subst q0
      clear htt
      by_cases qL : cL = 123
      · subst qL
        have HN := Lib.hid (show openT (Ls.take (k + 1)) 0 = (tb : Int) + 1 by rw [HNx.out, if_pos rfl])
        clear HNx
        gi_wp2_with fail
        obtain ⟨u1, u2, u3, u4⟩ := (HSS.out.set (v := (tb : Int)) hz34 (by omega)).set (v := (tb : Int) + 1) hz34 (by omega)
        exact ⟨u1, u2, u3, by rw [HN.out]; exact u4⟩
      · have qL1 : ((cL : Int) == 123) = false := by simp; omega
        have HN := Lib.hid (show openT (Ls.take (k + 1)) 0 = (tb : Int) by rw [HNx.out, if_neg qL])
        clear HNx
        gi_wp2_with fail
        obtain ⟨u1, u2, u3, u4⟩ := HSS.out.set (v := (tb : Int)) hz34 (by omega)
        exact ⟨u1, u2, u3, by rw [HN.out]; exact u4⟩
    · rw [if_neg q0] at htt
      subst htt
      have q1 : ((c0 : Int) == 125) = false := by simp; omega
      by_cases qL : cL = 123
      · subst qL
        have HN := Lib.hid (show openT (Ls.take (k + 1)) 0 = (tb : Int) + 1 by rw [HNx.out, if_pos rfl])
        clear HNx
        gi_wp2_with fail
        obtain ⟨u1, u2, u3, u4⟩ := HSS.out.set (v := (tb : Int) + 1) hz34 (by omega)
        exact ⟨u1, u2, u3, by rw [HN.out]; exact u4⟩
      · have qL1 : ((cL : Int) == 123) = false := by simp; omega
        have HN := Lib.hid (show openT (Ls.take (k + 1)) 0 = (tb : Int) by rw [HNx.out, if_neg qL])
        clear HNx
        gi_wp2_with fail
        obtain ⟨u1, u2, u3, u4⟩ := HSS.out
        exact ⟨u1, u2, u3, by rw [HN.out]; exact u4⟩
  · rintro D W hD ⟨hb, kd, ko⟩ hDh
    rw [List.take_length, HE.out] at ko
    have c5 := cell_of_one ko
    have lW := lt_of_block hDh
    have hbw := HB3.out.trans (hb.mono (Nat.le_of_lt hz3))
    have kr := (hb.block _ hz3).trans HK3.out
    have HH := Lib.hid (And.intro hDh (And.intro kr hbw))
    clear hb kd ko hDh hbw kr
    gi_wp2_with fail
    refine ⟨trivial, ?_⟩
    refine (callsIn_wide.2 (HK.out W HH.out.2.2)).mono ?_
    rintro e w6 ⟨rfl, hB6⟩
    have kr := (hB6.block _ (lt_of_block HH.out.2.1)).trans HH.out.2.1
    have kD := (hB6.block _ lW).trans HH.out.1
    have HBz := Lib.hid (HH.out.2.2.trans (hB6.mono HH.out.2.2.size))
    have c6 := cell_of_one kr
    have f6 := free_of_one kr
    have HKr := Lib.hid (And.intro kr kD)
    clear kr kD hB6 HH
    gi_wp2_with fail
    have hr2 := one_setCell (u := .bool true) HKr.out.1
    have hK' : (w6.setCell ⟨w.heap.size, 0, none⟩ (.bool true)).heap[D]? = some (.deferred (some [])) := (Below.heap_setCell w6 _ _ D (by show D ≠ w.heap.size; omega)).trans HKr.out.2
    have hc2 : ((w6.setCell ⟨w.heap.size, 0, none⟩ (.bool true)).putObj D (.deferred none)).cell? ⟨w.heap.size, 0, none⟩ = some (.bool true) := (World.cell?_of_block (World.putObj_heap_other (by show w.heap.size ≠ D; omega))).trans (cell_of_one hr2)
    have hbZ : Below w.heap.size w ((w6.setCell ⟨w.heap.size, 0, none⟩ (.bool true)).putObj D (.deferred none)) := (HBz.out.setCell (p := ⟨w.heap.size, 0, none⟩) (Nat.le_refl _) _).trans ⟨rfl, rfl, rfl, by simp, fun _ hk => World.putObj_heap_other (by omega)⟩
    refine ⟨by simp, .inl ⟨_, _, rfl, run_takeDeferred hK', ?_⟩⟩
    refine ⟨.bool true, ?_, rfl, hbZ⟩
    simp [results, Tryz.results7, go_sem, hc2]
  · intro D c k W hD hk h
    exact h.elim
theorem tabs_law (l : Sts) (p : Option Addr) (c : Nat) (w : World) (hG : Glob w) (h : l.In w w.heap.size p) :
    Calls Tryz.prog 7 #[.slice p l.len c] w fun e w' => e = .returned (.bool true) ∧ Below w.heap.size w w' := by
  by_cases hl : 5000 < l.total
  · exact tabs_long l p c w hG h hl
  · have h6 : l.wt ≤ 1000000 := by have := Sts.wt_total l; omega
    cases hc : l.can with
    | false =>
      refine tabs_main 71 (enters_of Tryz.func71 (by kernel_rfl) rfl) [] l p c w hG h hl (fun w1 hB => ?_) (fun k x hx => by simp at hx) rfl
      refine (lines_no l h6 p c w.heap.size w1 (h.later hB (Nat.le_refl _)) hB.size hc).mono ?_
      rintro e w' ⟨rfl, hB'⟩
      exact ⟨⟨#[], rfl, neq_nil0, fun n W _ => lines0_own n _ W⟩, hB'⟩
    | true =>
      have hm : l.may = true := can_may hc
      have hd : l.deep ≤ 64 := by unfold Sts.can at hc; simp only [Bool.and_eq_true, decide_eq_true_eq] at hc; exact hc.1
      have hbr := Sts.lines_braced l 0 hm
      have hok := Sts.lines_ok l 0 h.fine
      have hlen : ∀ y ∈ l.lines 0, y.2.length ≤ 1000000 := fun y hy => by have := (hok y hy).2.2; omega
      refine tabs_main 107 (enters_of Tryz.func107 (by kernel_rfl) rfl) (l.lines 0) l p c w hG h hl (fun w1 hB => ?_) (fun k x hx => ?_) hbr.2
      · refine (lines_yes l h6 (by omega) p c w.heap.size w1 (h.later hB (Nat.le_refl _)) hB.size hc).mono ?_
        rintro e w' ⟨⟨bx, q, d, rfl, hx, hin⟩, hB'⟩
        refine ⟨⟨#[.pointer (some ⟨bx, 0, none⟩)], rfl, neq_nil1 _, fun n W hW => ?_⟩, hB'⟩
        have hG' : Glob w' := hG.later (hB.trans (hB'.mono hB.size))
        exact stmtLines1_all l q d bx n w' W hm (by omega) hlen hin hG' ((hW.block _ (lt_of_block hx)).trans hx)
      · have h1 := Braced.get (l.lines 0) 0 hbr.1 k x hx
        have h2 := hok x (List.mem_of_getElem? hx)
        exact ⟨h1.1, h1.2.1, h1.2.2, by have := h2.2.1; omega, by have := h2.2.1; omega, hlen x (List.mem_of_getElem? hx)⟩
end Go.Proofs.YtlhbledakddbbaaGreatDoor
