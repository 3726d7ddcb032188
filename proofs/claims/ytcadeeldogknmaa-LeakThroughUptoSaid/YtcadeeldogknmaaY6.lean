/- The law on rewriting by several lists of terms: its walk. -/
import Derived.Test.YtcadeeldogknmaaY5
namespace Go.Proofs.Ytcadeeldogknmaa
open Go.RowKit

theorem Lf.len_weight : ∀ l : Lf, l.len ≤ l.weight
  | .nil => Nat.le_refl _
  | .node _ _ _ _ r => by have := Lf.len_weight r; simp only [Lf.len, Lf.weight]; omega
theorem rwP_wt {st : Int} {t : Tf} {l y : Lf} {br : Bool} (ht : smallT t = true) (hw : l.wt ≤ 1048576) (h : rwP st t l br = (0, y)) : y.wt ≤ 1073741824 := by
  obtain ⟨h1, h2, x, m, h3, h4, h5, h6⟩ := rwP_inv (show (rwP st t l br).1 = 0 by rw [h])
  rw [h6] at h
  cases h
  have hf := (Tf.fine_of t h2 (by simp [smallT] at ht; omega)).2
  have k1 := (rw_bnd (go_bnd st l t.rc br 0 hf) _ m h3).1
  have k2 := cap6_le m
  omega
theorem same_nil (p q : Option Addr) (cp cq : Nat) (w1 : World) : Calls Try.prog 10 #[.slice p 0 cp, .slice q 0 cq] w1 fun e w' => e = .returned (.bool true) ∧ Below w1.heap.size w1 w' := by
  have h := refSame_any .nil .nil p q cp cq _ w1 ⟨by simp [Lf.len], .inl rfl⟩ ⟨by simp [Lf.len], .inl rfl⟩ (Nat.le_refl _)
  rw [← Lf.same_true (rfl : Lf.nil = Lf.nil)] at h
  exact h
theorem same_self (y : Lf) (p q : Option Addr) (cp cq : Nat) (w1 : World) (h1 : y.In w1 w1.heap.size p) (h2 : y.In w1 w1.heap.size q) : Calls Try.prog 10 #[.slice p y.len cp, .slice q y.len cq] w1 fun e w' => e = .returned (.bool true) ∧ Below w1.heap.size w1 w' := by
  have h := refSame_any y y p q cp cq _ w1 h1 h2 (Nat.le_refl _)
  rw [← Lf.same_true (rfl : y = y)] at h
  exact h
section
variable (ta tb : Tf) (l : Lf) (pa pb pl : Option Addr) (ca cb cl : Nat) (st : Int) (br : Bool) (w : World)
set_option maxRecDepth 100000 in
set_option maxHeartbeats 12800000 in
theorem thr_few (G : GivenR w ta l pa pl cl) (_K : GivenR w tb l pb pl cl) (h1 : smallB l = false) :
    Calls Try.prog 3 #[.slice pa ta.len ca, .slice pb tb.len cb, .slice pl l.len cl, .int .u64 st, .bool br] w fun e w' => e = .returned (.bool true) ∧ Below w.heap.size w w' := by
  have HF := G.few
  rw [h1] at HF
  replace HF := Lib.hid HF
  clear G _K h1
  go_enter Try.func3, Try.ntmps3
  go_wp2_with fail
  refine HF.out.mono ?_
  rintro e w1 ⟨rfl, hB1⟩
  have HB := Lib.hid hB1
  clear hB1
  go_wp2_with fail
  refine (known_any _).mono ?_
  rintro e w9 ⟨rfl, hB9⟩
  replace HB := Lib.hid (HB.out.trans (hB9.mono HB.out.size))
  clear hB9
  go_wp2_with fail
  go_ret
  exact ⟨rfl, HB.out⟩
set_option maxRecDepth 100000 in
set_option maxHeartbeats 12800000 in
theorem thr_sa (G : GivenR w ta l pa pl cl) (_K : GivenR w tb l pb pl cl) (h1 : smallB l = true) (h2 : smallT ta = false) :
    Calls Try.prog 3 #[.slice pa ta.len ca, .slice pb tb.len cb, .slice pl l.len cl, .int .u64 st, .bool br] w fun e w' => e = .returned (.bool true) ∧ Below w.heap.size w w' := by
  have HF := G.few
  rw [h1] at HF
  replace HF := Lib.hid HF
  have HSa := fun w1 hb => G.small ca w1 hb
  rw [h2] at HSa
  replace HSa := Lib.hid HSa
  clear G _K h1 h2
  go_enter Try.func3, Try.ntmps3
  go_wp2_with fail
  refine HF.out.mono ?_
  rintro e w1 ⟨rfl, hB1⟩
  have HB := Lib.hid hB1
  clear hB1
  go_wp2_with fail
  refine (HSa.out _ HB.out).mono ?_
  rintro e w2 ⟨rfl, hB2⟩
  replace HB := Lib.hid (HB.out.trans (hB2.mono HB.out.size))
  clear hB2
  go_wp2_with fail
  refine (known_any _).mono ?_
  rintro e w9 ⟨rfl, hB9⟩
  replace HB := Lib.hid (HB.out.trans (hB9.mono HB.out.size))
  clear hB9
  go_wp2_with fail
  go_ret
  exact ⟨rfl, HB.out⟩
set_option maxRecDepth 100000 in
set_option maxHeartbeats 12800000 in
theorem thr_sb (G : GivenR w ta l pa pl cl) (K : GivenR w tb l pb pl cl) (h1 : smallB l = true) (h2 : smallT ta = true) (h3 : smallT tb = false) :
    Calls Try.prog 3 #[.slice pa ta.len ca, .slice pb tb.len cb, .slice pl l.len cl, .int .u64 st, .bool br] w fun e w' => e = .returned (.bool true) ∧ Below w.heap.size w w' := by
  have HF := G.few
  rw [h1] at HF
  replace HF := Lib.hid HF
  have HSa := fun w1 hb => G.small ca w1 hb
  rw [h2] at HSa
  replace HSa := Lib.hid HSa
  have HSb := fun w1 hb => K.small cb w1 hb
  rw [h3] at HSb
  replace HSb := Lib.hid HSb
  clear G K h1 h2 h3
  go_enter Try.func3, Try.ntmps3
  go_wp2_with fail
  refine HF.out.mono ?_
  rintro e w1 ⟨rfl, hB1⟩
  have HB := Lib.hid hB1
  clear hB1
  go_wp2_with fail
  refine (HSa.out _ HB.out).mono ?_
  rintro e w2 ⟨rfl, hB2⟩
  replace HB := Lib.hid (HB.out.trans (hB2.mono HB.out.size))
  clear hB2
  go_wp2_with fail
  refine (HSb.out _ HB.out).mono ?_
  rintro e w2 ⟨rfl, hB2⟩
  replace HB := Lib.hid (HB.out.trans (hB2.mono HB.out.size))
  clear hB2
  go_wp2_with fail
  refine (known_any _).mono ?_
  rintro e w9 ⟨rfl, hB9⟩
  replace HB := Lib.hid (HB.out.trans (hB9.mono HB.out.size))
  clear hB9
  go_wp2_with fail
  go_ret
  exact ⟨rfl, HB.out⟩
set_option maxRecDepth 100000 in
set_option maxHeartbeats 12800000 in
theorem thr_af (G : GivenR w ta l pa pl cl) (K : GivenR w tb l pb pl cl) (h1 : smallB l = true) (h2 : smallT ta = true) (h3 : smallT tb = true) (hsh : l.shaped = false) (E : Int) (h4 : rwP st ta l br = (E, .nil)) (h5 : ¬ E = 0) :
    Calls Try.prog 3 #[.slice pa ta.len ca, .slice pb tb.len cb, .slice pl l.len cl, .int .u64 st, .bool br] w fun e w' => e = .returned (.bool true) ∧ Below w.heap.size w w' := by
  have HF := G.few
  rw [h1] at HF
  replace HF := Lib.hid HF
  have HSa := fun w1 hb => G.small ca w1 hb
  rw [h2] at HSa
  replace HSa := Lib.hid HSa
  have HSb := fun w1 hb => K.small cb w1 hb
  rw [h3] at HSb
  replace HSb := Lib.hid HSb
  have HL := Lib.hid (fun (w1 : World) (hb : Below w.heap.size w w1) => (show l.In w1 w1.heap.size pl from (In_later G.hl hb (Nat.le_refl _)).later (Below.refl _ _) hb.size))
  have HN := Lib.hid (fun (w1 : World) (hb : Below w.heap.size w w1) => through_none l pl cl st br w1 (HL.out w1 hb) (by have := G.wl; omega))
  have HSS := Lib.hid (same_self l)
  have HFi := fun (w1 : World) (hb : Below w.heap.size w w1) => fits_any l pl cl _ w1 (HL.out w1 hb) (Nat.le_refl _)
  rw [hsh] at HFi
  replace HFi := Lib.hid HFi
  have HLN := Lib.hid (show l.len ≤ 1073741824 by have := Lf.len_wt l; have := G.wl; omega)
  have HRa := fun (w1 : World) (hb : Below w.heap.size w w1) => G.rewrite h2 ca br st (ca := cl) w1 hb (HL.out w1 hb) (by have := G.wl; omega)
  rw [h4] at HRa
  have HTh := Lib.hid (fun (w1 : World) (g : Nat) (hb : Below w.heap.size w w1) g0 g1 => through_a pa pb pl ta.len tb.len l.len ca cb cl st br g w1 E h5 g0 g1 (fun w2 hb2 => HRa w2 (hb.trans (hb2.mono hb.size))))
  replace HRa := Lib.hid HRa
  have hc' : (E != 0) = true := by simp [bne, h5]
  have hEE : (E != E) = false := by simp
  clear G K h1 h2 h3 h4 h5 hsh
  go_enter Try.func3, Try.ntmps3
  go_wp2_with fail
  refine HF.out.mono ?_
  rintro e w1 ⟨rfl, hB1⟩
  have HB := Lib.hid hB1
  clear hB1
  go_wp2_with fail
  refine (HSa.out _ HB.out).mono ?_
  rintro e w2 ⟨rfl, hB2⟩
  replace HB := Lib.hid (HB.out.trans (hB2.mono HB.out.size))
  clear hB2
  go_wp2_with fail
  refine (HSb.out _ HB.out).mono ?_
  rintro e w2 ⟨rfl, hB2⟩
  replace HB := Lib.hid (HB.out.trans (hB2.mono HB.out.size))
  clear hB2
  go_wp2_with fail
  have HB' := HB
  replace HB := Lib.hid (HB.out.alloc HB.out.size (Obj.cells #[.slice pa ta.len ca, .slice pb tb.len cb] 22))
  refine (HTh.out _ _ HB.out (by simp [go_sem]) (by simp [go_sem])).mono ?_
  intro e w3 h
  obtain ⟨qx, cx, rfl, hB2⟩ := h.nil
  replace HB := Lib.hid (HB.out.trans (hB2.mono HB.out.size))
  clear HB'
  clear hB2 h
  go_wp2_with fail
  refine (HRa.out _ HB.out).mono ?_
  intro e w3 h
  obtain ⟨qy, cy, rfl, hB2⟩ := h.nil
  replace HB := Lib.hid (HB.out.trans (hB2.mono HB.out.size))
  clear hB2 h
  go_wp2_with fail
  refine (HN.out _ HB.out).mono ?_
  rintro e w2 ⟨qp, cp, rfl, hin, hB2⟩
  replace HB := Lib.hid (HB.out.trans (hB2.mono HB.out.size))
  have HIP := Lib.hid (And.intro hin (HL.out _ HB.out))
  clear hB2 hin
  go_wp2_with fail
  refine (HSS.out _ _ _ _ _ HIP.out.1 HIP.out.2).mono ?_
  rintro e w2 ⟨rfl, hB2⟩
  replace HB := Lib.hid (HB.out.trans (hB2.mono HB.out.size))
  clear hB2 HIP
  go_wp2_with fail
  refine (HFi.out _ HB.out).mono ?_
  rintro e w2 ⟨rfl, hB2⟩
  replace HB := Lib.hid (HB.out.trans (hB2.mono HB.out.size))
  clear hB2
  go_wp2_with fail
  refine (known_any _).mono ?_
  rintro e w9 ⟨rfl, hB9⟩
  replace HB := Lib.hid (HB.out.trans (hB9.mono HB.out.size))
  clear hB9
  go_wp2_with fail
  go_ret
  exact ⟨rfl, HB.out⟩
set_option maxRecDepth 100000 in
set_option maxHeartbeats 12800000 in
theorem thr_bf (G : GivenR w ta l pa pl cl) (K : GivenR w tb l pb pl cl) (h1 : smallB l = true) (h2 : smallT ta = true) (h3 : smallT tb = true) (hsh : l.shaped = false) (y : Lf) (E : Int) (h4 : rwP st ta l br = (0, y)) (h6 : rwP st tb y br = (E, .nil)) (h5 : ¬ E = 0) :
    Calls Try.prog 3 #[.slice pa ta.len ca, .slice pb tb.len cb, .slice pl l.len cl, .int .u64 st, .bool br] w fun e w' => e = .returned (.bool true) ∧ Below w.heap.size w w' := by
  have HF := G.few
  rw [h1] at HF
  replace HF := Lib.hid HF
  have HSa := fun w1 hb => G.small ca w1 hb
  rw [h2] at HSa
  replace HSa := Lib.hid HSa
  have HSb := fun w1 hb => K.small cb w1 hb
  rw [h3] at HSb
  replace HSb := Lib.hid HSb
  have HL := Lib.hid (fun (w1 : World) (hb : Below w.heap.size w w1) => (show l.In w1 w1.heap.size pl from (In_later G.hl hb (Nat.le_refl _)).later (Below.refl _ _) hb.size))
  have HN := Lib.hid (fun (w1 : World) (hb : Below w.heap.size w w1) => through_none l pl cl st br w1 (HL.out w1 hb) (by have := G.wl; omega))
  have HSS := Lib.hid (same_self l)
  have HFi := fun (w1 : World) (hb : Below w.heap.size w w1) => fits_any l pl cl _ w1 (HL.out w1 hb) (Nat.le_refl _)
  rw [hsh] at HFi
  replace HFi := Lib.hid HFi
  have HLN := Lib.hid (show l.len ≤ 1073741824 by have := Lf.len_wt l; have := G.wl; omega)
  have HRa := fun (w1 : World) (hb : Below w.heap.size w w1) => G.rewrite h2 ca br st (ca := cl) w1 hb (HL.out w1 hb) (by have := G.wl; omega)
  rw [h4] at HRa
  have HRb := fun (w1 : World) (q : Option Addr) (c : Nat) (hb : Below w.heap.size w w1) (hi : y.In w1 w1.heap.size q) => K.rewrite h3 cb br st (ca := c) w1 hb hi (rwP_wt h2 G.wl h4)
  rw [h6] at HRb
  have HTh := Lib.hid (fun (w1 : World) (g : Nat) (hb : Below w.heap.size w w1) g0 g1 => through_b pa pb pl ta.len tb.len l.len ca cb cl st br g w1 y E h5 g0 g1 (fun w2 hb2 => HRa w2 (hb.trans (hb2.mono hb.size))) (fun w2 q c hb2 hi => HRb w2 q c (hb.trans (hb2.mono hb.size)) hi))
  replace HRa := Lib.hid HRa
  replace HRb := Lib.hid HRb
  have hc' : (E != 0) = true := by simp [bne, h5]
  have hEE : (E != E) = false := by simp
  clear G K h1 h2 h3 h4 h5 h6 hsh
  go_enter Try.func3, Try.ntmps3
  go_wp2_with fail
  refine HF.out.mono ?_
  rintro e w1 ⟨rfl, hB1⟩
  have HB := Lib.hid hB1
  clear hB1
  go_wp2_with fail
  refine (HSa.out _ HB.out).mono ?_
  rintro e w2 ⟨rfl, hB2⟩
  replace HB := Lib.hid (HB.out.trans (hB2.mono HB.out.size))
  clear hB2
  go_wp2_with fail
  refine (HSb.out _ HB.out).mono ?_
  rintro e w2 ⟨rfl, hB2⟩
  replace HB := Lib.hid (HB.out.trans (hB2.mono HB.out.size))
  clear hB2
  go_wp2_with fail
  have HB' := HB
  replace HB := Lib.hid (HB.out.alloc HB.out.size (Obj.cells #[.slice pa ta.len ca, .slice pb tb.len cb] 22))
  refine (HTh.out _ _ HB.out (by simp [go_sem]) (by simp [go_sem])).mono ?_
  intro e w3 h
  obtain ⟨qx, cx, rfl, hB2⟩ := h.nil
  replace HB := Lib.hid (HB.out.trans (hB2.mono HB.out.size))
  clear HB'
  clear hB2 h
  go_wp2_with fail
  refine (HRa.out _ HB.out).mono ?_
  intro e w3 h
  obtain ⟨qy, cy, rfl, hiy, _, hB2⟩ := h.one
  replace HB := Lib.hid (HB.out.trans (hB2.mono HB.out.size))
  have HIY := Lib.hid hiy
  clear hiy
  clear hB2 h
  go_wp2_with fail
  refine (HRb.out _ _ _ HB.out HIY.out).mono ?_
  intro e w3 h
  obtain ⟨qz, cz, rfl, hB2⟩ := h.nil
  replace HB := Lib.hid (HB.out.trans (hB2.mono HB.out.size))
  clear HIY
  clear hB2 h
  go_wp2_with fail
  refine (same_nil _ _ _ _ _).mono ?_
  rintro e w2 ⟨rfl, hB2⟩
  replace HB := Lib.hid (HB.out.trans (hB2.mono HB.out.size))
  clear hB2
  go_wp2_with fail
  refine (HN.out _ HB.out).mono ?_
  rintro e w2 ⟨qp, cp, rfl, hin, hB2⟩
  replace HB := Lib.hid (HB.out.trans (hB2.mono HB.out.size))
  have HIP := Lib.hid (And.intro hin (HL.out _ HB.out))
  clear hB2 hin
  go_wp2_with fail
  refine (HSS.out _ _ _ _ _ HIP.out.1 HIP.out.2).mono ?_
  rintro e w2 ⟨rfl, hB2⟩
  replace HB := Lib.hid (HB.out.trans (hB2.mono HB.out.size))
  clear hB2 HIP
  go_wp2_with fail
  refine (HFi.out _ HB.out).mono ?_
  rintro e w2 ⟨rfl, hB2⟩
  replace HB := Lib.hid (HB.out.trans (hB2.mono HB.out.size))
  clear hB2
  go_wp2_with fail
  refine (known_any _).mono ?_
  rintro e w9 ⟨rfl, hB9⟩
  replace HB := Lib.hid (HB.out.trans (hB9.mono HB.out.size))
  clear hB9
  go_wp2_with fail
  go_ret
  exact ⟨rfl, HB.out⟩
set_option maxRecDepth 100000 in
set_option maxHeartbeats 12800000 in
theorem thr_cf (G : GivenR w ta l pa pl cl) (K : GivenR w tb l pb pl cl) (h1 : smallB l = true) (h2 : smallT ta = true) (h3 : smallT tb = true) (hsh : l.shaped = false) (y z : Lf) (h4 : rwP st ta l br = (0, y)) (h6 : rwP st tb y br = (0, z)) :
    Calls Try.prog 3 #[.slice pa ta.len ca, .slice pb tb.len cb, .slice pl l.len cl, .int .u64 st, .bool br] w fun e w' => e = .returned (.bool true) ∧ Below w.heap.size w w' := by
  have HF := G.few
  rw [h1] at HF
  replace HF := Lib.hid HF
  have HSa := fun w1 hb => G.small ca w1 hb
  rw [h2] at HSa
  replace HSa := Lib.hid HSa
  have HSb := fun w1 hb => K.small cb w1 hb
  rw [h3] at HSb
  replace HSb := Lib.hid HSb
  have HL := Lib.hid (fun (w1 : World) (hb : Below w.heap.size w w1) => (show l.In w1 w1.heap.size pl from (In_later G.hl hb (Nat.le_refl _)).later (Below.refl _ _) hb.size))
  have HN := Lib.hid (fun (w1 : World) (hb : Below w.heap.size w w1) => through_none l pl cl st br w1 (HL.out w1 hb) (by have := G.wl; omega))
  have HSS := Lib.hid (same_self l)
  have HFi := fun (w1 : World) (hb : Below w.heap.size w w1) => fits_any l pl cl _ w1 (HL.out w1 hb) (Nat.le_refl _)
  rw [hsh] at HFi
  replace HFi := Lib.hid HFi
  have HLN := Lib.hid (show l.len ≤ 1073741824 by have := Lf.len_wt l; have := G.wl; omega)
  have HRa := fun (w1 : World) (hb : Below w.heap.size w w1) => G.rewrite h2 ca br st (ca := cl) w1 hb (HL.out w1 hb) (by have := G.wl; omega)
  rw [h4] at HRa
  have HRb := fun (w1 : World) (q : Option Addr) (c : Nat) (hb : Below w.heap.size w w1) (hi : y.In w1 w1.heap.size q) => K.rewrite h3 cb br st (ca := c) w1 hb hi (rwP_wt h2 G.wl h4)
  rw [h6] at HRb
  have HTh := Lib.hid (fun (w1 : World) (g : Nat) (hb : Below w.heap.size w w1) g0 g1 => through_c pa pb pl ta.len tb.len l.len ca cb cl st br g w1 y z g0 g1 (fun w2 hb2 => HRa w2 (hb.trans (hb2.mono hb.size))) (fun w2 q c hb2 hi => HRb w2 q c (hb.trans (hb2.mono hb.size)) hi))
  replace HRa := Lib.hid HRa
  replace HRb := Lib.hid HRb
  have HZZ := Lib.hid (same_self z)
  clear G K h1 h2 h3 h4 h6 hsh
  go_enter Try.func3, Try.ntmps3
  go_wp2_with fail
  refine HF.out.mono ?_
  rintro e w1 ⟨rfl, hB1⟩
  have HB := Lib.hid hB1
  clear hB1
  go_wp2_with fail
  refine (HSa.out _ HB.out).mono ?_
  rintro e w2 ⟨rfl, hB2⟩
  replace HB := Lib.hid (HB.out.trans (hB2.mono HB.out.size))
  clear hB2
  go_wp2_with fail
  refine (HSb.out _ HB.out).mono ?_
  rintro e w2 ⟨rfl, hB2⟩
  replace HB := Lib.hid (HB.out.trans (hB2.mono HB.out.size))
  clear hB2
  go_wp2_with fail
  have HB' := HB
  replace HB := Lib.hid (HB.out.alloc HB.out.size (Obj.cells #[.slice pa ta.len ca, .slice pb tb.len cb] 22))
  refine (HTh.out _ _ HB.out (by simp [go_sem]) (by simp [go_sem])).mono ?_
  intro e w3 h
  obtain ⟨qx, cx, rfl, hix, _, hB2⟩ := h.one
  replace HB := Lib.hid (HB.out.trans (hB2.mono HB.out.size))
  have HIX := Lib.hid hix
  clear hix
  clear HB'
  clear hB2 h
  go_wp2_with fail
  refine (HRa.out _ HB.out).mono ?_
  intro e w3 h
  obtain ⟨qy, cy, rfl, hiy, _, hB2⟩ := h.one
  replace HB := Lib.hid (HB.out.trans (hB2.mono HB.out.size))
  have HIY := Lib.hid hiy
  replace HIX := Lib.hid (HIX.out.later hB2 hB2.size)
  clear hiy
  clear hB2 h
  go_wp2_with fail
  refine (HRb.out _ _ _ HB.out HIY.out).mono ?_
  intro e w3 h
  obtain ⟨qz, cz, rfl, hiz, _, hB2⟩ := h.one
  replace HB := Lib.hid (HB.out.trans (hB2.mono HB.out.size))
  have HIZ := Lib.hid (And.intro (HIX.out.later hB2 hB2.size) hiz)
  clear HIY HIX hiz
  clear hB2 h
  go_wp2_with fail
  refine (HZZ.out _ _ _ _ _ HIZ.out.1 HIZ.out.2).mono ?_
  rintro e w2 ⟨rfl, hB2⟩
  replace HB := Lib.hid (HB.out.trans (hB2.mono HB.out.size))
  clear hB2 HIZ
  go_wp2_with fail
  refine (HN.out _ HB.out).mono ?_
  rintro e w2 ⟨qp, cp, rfl, hin, hB2⟩
  replace HB := Lib.hid (HB.out.trans (hB2.mono HB.out.size))
  have HIP := Lib.hid (And.intro hin (HL.out _ HB.out))
  clear hB2 hin
  go_wp2_with fail
  refine (HSS.out _ _ _ _ _ HIP.out.1 HIP.out.2).mono ?_
  rintro e w2 ⟨rfl, hB2⟩
  replace HB := Lib.hid (HB.out.trans (hB2.mono HB.out.size))
  clear hB2 HIP
  go_wp2_with fail
  refine (HFi.out _ HB.out).mono ?_
  rintro e w2 ⟨rfl, hB2⟩
  replace HB := Lib.hid (HB.out.trans (hB2.mono HB.out.size))
  clear hB2
  go_wp2_with fail
  refine (known_any _).mono ?_
  rintro e w9 ⟨rfl, hB9⟩
  replace HB := Lib.hid (HB.out.trans (hB9.mono HB.out.size))
  clear hB9
  go_wp2_with fail
  go_ret
  exact ⟨rfl, HB.out⟩
set_option maxRecDepth 100000 in
set_option maxHeartbeats 12800000 in
theorem thr_at (G : GivenR w ta l pa pl cl) (K : GivenR w tb l pb pl cl) (h1 : smallB l = true) (h2 : smallT ta = true) (h3 : smallT tb = true) (hsh : l.shaped = true) (E : Int) (h4 : rwP st ta l br = (E, .nil)) (h5 : ¬ E = 0) :
    Calls Try.prog 3 #[.slice pa ta.len ca, .slice pb tb.len cb, .slice pl l.len cl, .int .u64 st, .bool br] w fun e w' => e = .returned (.bool true) ∧ Below w.heap.size w w' := by
  have HF := G.few
  rw [h1] at HF
  replace HF := Lib.hid HF
  have HSa := fun w1 hb => G.small ca w1 hb
  rw [h2] at HSa
  replace HSa := Lib.hid HSa
  have HSb := fun w1 hb => K.small cb w1 hb
  rw [h3] at HSb
  replace HSb := Lib.hid HSb
  have HL := Lib.hid (fun (w1 : World) (hb : Below w.heap.size w w1) => (show l.In w1 w1.heap.size pl from (In_later G.hl hb (Nat.le_refl _)).later (Below.refl _ _) hb.size))
  have HN := Lib.hid (fun (w1 : World) (hb : Below w.heap.size w w1) => through_none l pl cl st br w1 (HL.out w1 hb) (by have := G.wl; omega))
  have HSS := Lib.hid (same_self l)
  have HFi := fun (w1 : World) (hb : Below w.heap.size w w1) => fits_any l pl cl _ w1 (HL.out w1 hb) (Nat.le_refl _)
  rw [hsh] at HFi
  replace HFi := Lib.hid HFi
  have HLN := Lib.hid (show l.len ≤ 1073741824 by have := Lf.len_wt l; have := G.wl; omega)
  have HRS := Lib.hid (fun (w7 wr : World) (g : Nat) (hb : Below w.heap.size w wr) (h : TM w7 wr g l.len l.len) => (show Calls Try.prog 9 #[.slice (some ⟨g, 0, none⟩) l.len l.len, .slice pl l.len cl, .int .u64 st, .bool false] wr (RwOut (0, l) wr) from by
    have hn := samesT_nums l.len
    have hl60 : l.depth ≤ 60 ∧ l.weight ≤ 3000 := by simpa [smallB] using h1
    have hlw : l.len ≤ 1000000 := by have := Lf.len_wt l; have := G.wl; have := Lf.len_weight l; omega
    have := rewrite_any (samesT l.len) l (some ⟨g, 0, none⟩) pl l.len cl false wr.heap.size st wr (h.in (by omega)) (HL.out wr hb) (Nat.le_refl _) (fun b o _ => samesT_cap _ _ _ _) (by omega) (by omega) (by omega) (by omega) (by have := G.wl; omega)
    rw [samesT_len, same_plain st h1 hsh] at this
    exact this))
  have HRa := fun (w1 : World) (hb : Below w.heap.size w w1) => G.rewrite h2 ca br st (ca := cl) w1 hb (HL.out w1 hb) (by have := G.wl; omega)
  rw [h4] at HRa
  have HTh := Lib.hid (fun (w1 : World) (g : Nat) (hb : Below w.heap.size w w1) g0 g1 => through_a pa pb pl ta.len tb.len l.len ca cb cl st br g w1 E h5 g0 g1 (fun w2 hb2 => HRa w2 (hb.trans (hb2.mono hb.size))))
  replace HRa := Lib.hid HRa
  have hc' : (E != 0) = true := by simp [bne, h5]
  have hEE : (E != E) = false := by simp
  clear G K h1 h2 h3 h4 h5 hsh
  go_enter Try.func3, Try.ntmps3
  go_wp2_with fail
  refine HF.out.mono ?_
  rintro e w1 ⟨rfl, hB1⟩
  have HB := Lib.hid hB1
  clear hB1
  go_wp2_with fail
  refine (HSa.out _ HB.out).mono ?_
  rintro e w2 ⟨rfl, hB2⟩
  replace HB := Lib.hid (HB.out.trans (hB2.mono HB.out.size))
  clear hB2
  go_wp2_with fail
  refine (HSb.out _ HB.out).mono ?_
  rintro e w2 ⟨rfl, hB2⟩
  replace HB := Lib.hid (HB.out.trans (hB2.mono HB.out.size))
  clear hB2
  go_wp2_with fail
  have HB' := HB
  replace HB := Lib.hid (HB.out.alloc HB.out.size (Obj.cells #[.slice pa ta.len ca, .slice pb tb.len cb] 22))
  refine (HTh.out _ _ HB.out (by simp [go_sem]) (by simp [go_sem])).mono ?_
  intro e w3 h
  obtain ⟨qx, cx, rfl, hB2⟩ := h.nil
  replace HB := Lib.hid (HB.out.trans (hB2.mono HB.out.size))
  clear HB'
  clear hB2 h
  go_wp2_with fail
  refine (HRa.out _ HB.out).mono ?_
  intro e w3 h
  obtain ⟨qy, cy, rfl, hB2⟩ := h.nil
  replace HB := Lib.hid (HB.out.trans (hB2.mono HB.out.size))
  clear hB2 h
  go_wp2_with fail
  refine (HN.out _ HB.out).mono ?_
  rintro e w2 ⟨qp, cp, rfl, hin, hB2⟩
  replace HB := Lib.hid (HB.out.trans (hB2.mono HB.out.size))
  have HIP := Lib.hid (And.intro hin (HL.out _ HB.out))
  clear hB2 hin
  go_wp2_with fail
  refine (HSS.out _ _ _ _ _ HIP.out.1 HIP.out.2).mono ?_
  rintro e w2 ⟨rfl, hB2⟩
  replace HB := Lib.hid (HB.out.trans (hB2.mono HB.out.size))
  clear hB2 HIP
  go_wp2_with fail
  refine (HFi.out _ HB.out).mono ?_
  rintro e w2 ⟨rfl, hB2⟩
  replace HB := Lib.hid (HB.out.trans (hB2.mono HB.out.size))
  clear hB2
  obtain ⟨W0, hmk, hTM⟩ := make_terms l.len HLN.out w2
  have HTM := Lib.hid hTM
  clear hTM
  go_wp2_with fail
  go_loopw [20] (fun i wr => ∃ k : Nat, i = .int .i64 k ∧ k ≤ l.len ∧ Hid (TM w2 wr w2.heap.size l.len k)) (fun i _ => l.len - (intOf i).toNat)
  case atStart => exact ⟨0, rfl, Nat.zero_le _, HTM⟩
  case round =>
    clear hmk HTM
    obtain ⟨k, rfl, hk, HT⟩ := hrel
    by_cases hlt : k < l.len
    · obtain ⟨c0, _, _, _⟩ := HT.out.cs k hlt
      have z0 := HT.out.fz (k * 4)
      have hlb : l.len ≤ 1073741824 := HLN.out
      go_wp2_with fail
      go_roundw
      case rel => exact ⟨k + 1, by go_num, by omega, Lib.hid (HT.out.put hlt)⟩
      case measure => simp [intOf]; omega
    · obtain rfl : k = l.len := by omega
      replace HB := Lib.hid (HB.out.trans (HT.out.bel.mono HB.out.size))
      go_wp2_with fail
      refine (HRS.out _ _ _ HB.out HT.out).mono ?_
      intro e w3 h
      obtain ⟨qq, cq, rfl, hin, _, hB3⟩ := h.one
      replace HB := Lib.hid (HB.out.trans (hB3.mono HB.out.size))
      have HIQ := Lib.hid (And.intro hin (HL.out _ HB.out))
      clear hB3 hin h
      go_wp2_with fail
      refine (HSS.out _ _ _ _ _ HIQ.out.1 HIQ.out.2).mono ?_
      rintro e w4 ⟨rfl, hB4⟩
      replace HB := Lib.hid (HB.out.trans (hB4.mono HB.out.size))
      clear hB4 HIQ
      go_wp2_with fail
      refine (known_any _).mono ?_
      rintro e w9 ⟨rfl, hB9⟩
      replace HB := Lib.hid (HB.out.trans (hB9.mono HB.out.size))
      clear hB9
      go_wp2_with fail
      go_ret
      exact ⟨rfl, HB.out⟩
set_option maxRecDepth 100000 in
set_option maxHeartbeats 12800000 in
theorem thr_bt (G : GivenR w ta l pa pl cl) (K : GivenR w tb l pb pl cl) (h1 : smallB l = true) (h2 : smallT ta = true) (h3 : smallT tb = true) (hsh : l.shaped = true) (y : Lf) (E : Int) (h4 : rwP st ta l br = (0, y)) (h6 : rwP st tb y br = (E, .nil)) (h5 : ¬ E = 0) :
    Calls Try.prog 3 #[.slice pa ta.len ca, .slice pb tb.len cb, .slice pl l.len cl, .int .u64 st, .bool br] w fun e w' => e = .returned (.bool true) ∧ Below w.heap.size w w' := by
  have HF := G.few
  rw [h1] at HF
  replace HF := Lib.hid HF
  have HSa := fun w1 hb => G.small ca w1 hb
  rw [h2] at HSa
  replace HSa := Lib.hid HSa
  have HSb := fun w1 hb => K.small cb w1 hb
  rw [h3] at HSb
  replace HSb := Lib.hid HSb
  have HL := Lib.hid (fun (w1 : World) (hb : Below w.heap.size w w1) => (show l.In w1 w1.heap.size pl from (In_later G.hl hb (Nat.le_refl _)).later (Below.refl _ _) hb.size))
  have HN := Lib.hid (fun (w1 : World) (hb : Below w.heap.size w w1) => through_none l pl cl st br w1 (HL.out w1 hb) (by have := G.wl; omega))
  have HSS := Lib.hid (same_self l)
  have HFi := fun (w1 : World) (hb : Below w.heap.size w w1) => fits_any l pl cl _ w1 (HL.out w1 hb) (Nat.le_refl _)
  rw [hsh] at HFi
  replace HFi := Lib.hid HFi
  have HLN := Lib.hid (show l.len ≤ 1073741824 by have := Lf.len_wt l; have := G.wl; omega)
  have HRS := Lib.hid (fun (w7 wr : World) (g : Nat) (hb : Below w.heap.size w wr) (h : TM w7 wr g l.len l.len) => (show Calls Try.prog 9 #[.slice (some ⟨g, 0, none⟩) l.len l.len, .slice pl l.len cl, .int .u64 st, .bool false] wr (RwOut (0, l) wr) from by
    have hn := samesT_nums l.len
    have hl60 : l.depth ≤ 60 ∧ l.weight ≤ 3000 := by simpa [smallB] using h1
    have hlw : l.len ≤ 1000000 := by have := Lf.len_wt l; have := G.wl; have := Lf.len_weight l; omega
    have := rewrite_any (samesT l.len) l (some ⟨g, 0, none⟩) pl l.len cl false wr.heap.size st wr (h.in (by omega)) (HL.out wr hb) (Nat.le_refl _) (fun b o _ => samesT_cap _ _ _ _) (by omega) (by omega) (by omega) (by omega) (by have := G.wl; omega)
    rw [samesT_len, same_plain st h1 hsh] at this
    exact this))
  have HRa := fun (w1 : World) (hb : Below w.heap.size w w1) => G.rewrite h2 ca br st (ca := cl) w1 hb (HL.out w1 hb) (by have := G.wl; omega)
  rw [h4] at HRa
  have HRb := fun (w1 : World) (q : Option Addr) (c : Nat) (hb : Below w.heap.size w w1) (hi : y.In w1 w1.heap.size q) => K.rewrite h3 cb br st (ca := c) w1 hb hi (rwP_wt h2 G.wl h4)
  rw [h6] at HRb
  have HTh := Lib.hid (fun (w1 : World) (g : Nat) (hb : Below w.heap.size w w1) g0 g1 => through_b pa pb pl ta.len tb.len l.len ca cb cl st br g w1 y E h5 g0 g1 (fun w2 hb2 => HRa w2 (hb.trans (hb2.mono hb.size))) (fun w2 q c hb2 hi => HRb w2 q c (hb.trans (hb2.mono hb.size)) hi))
  replace HRa := Lib.hid HRa
  replace HRb := Lib.hid HRb
  have hc' : (E != 0) = true := by simp [bne, h5]
  have hEE : (E != E) = false := by simp
  clear G K h1 h2 h3 h4 h5 h6 hsh
  go_enter Try.func3, Try.ntmps3
  go_wp2_with fail
  refine HF.out.mono ?_
  rintro e w1 ⟨rfl, hB1⟩
  have HB := Lib.hid hB1
  clear hB1
  go_wp2_with fail
  refine (HSa.out _ HB.out).mono ?_
  rintro e w2 ⟨rfl, hB2⟩
  replace HB := Lib.hid (HB.out.trans (hB2.mono HB.out.size))
  clear hB2
  go_wp2_with fail
  refine (HSb.out _ HB.out).mono ?_
  rintro e w2 ⟨rfl, hB2⟩
  replace HB := Lib.hid (HB.out.trans (hB2.mono HB.out.size))
  clear hB2
  go_wp2_with fail
  have HB' := HB
  replace HB := Lib.hid (HB.out.alloc HB.out.size (Obj.cells #[.slice pa ta.len ca, .slice pb tb.len cb] 22))
  refine (HTh.out _ _ HB.out (by simp [go_sem]) (by simp [go_sem])).mono ?_
  intro e w3 h
  obtain ⟨qx, cx, rfl, hB2⟩ := h.nil
  replace HB := Lib.hid (HB.out.trans (hB2.mono HB.out.size))
  clear HB'
  clear hB2 h
  go_wp2_with fail
  refine (HRa.out _ HB.out).mono ?_
  intro e w3 h
  obtain ⟨qy, cy, rfl, hiy, _, hB2⟩ := h.one
  replace HB := Lib.hid (HB.out.trans (hB2.mono HB.out.size))
  have HIY := Lib.hid hiy
  clear hiy
  clear hB2 h
  go_wp2_with fail
  refine (HRb.out _ _ _ HB.out HIY.out).mono ?_
  intro e w3 h
  obtain ⟨qz, cz, rfl, hB2⟩ := h.nil
  replace HB := Lib.hid (HB.out.trans (hB2.mono HB.out.size))
  clear HIY
  clear hB2 h
  go_wp2_with fail
  refine (same_nil _ _ _ _ _).mono ?_
  rintro e w2 ⟨rfl, hB2⟩
  replace HB := Lib.hid (HB.out.trans (hB2.mono HB.out.size))
  clear hB2
  go_wp2_with fail
  refine (HN.out _ HB.out).mono ?_
  rintro e w2 ⟨qp, cp, rfl, hin, hB2⟩
  replace HB := Lib.hid (HB.out.trans (hB2.mono HB.out.size))
  have HIP := Lib.hid (And.intro hin (HL.out _ HB.out))
  clear hB2 hin
  go_wp2_with fail
  refine (HSS.out _ _ _ _ _ HIP.out.1 HIP.out.2).mono ?_
  rintro e w2 ⟨rfl, hB2⟩
  replace HB := Lib.hid (HB.out.trans (hB2.mono HB.out.size))
  clear hB2 HIP
  go_wp2_with fail
  refine (HFi.out _ HB.out).mono ?_
  rintro e w2 ⟨rfl, hB2⟩
  replace HB := Lib.hid (HB.out.trans (hB2.mono HB.out.size))
  clear hB2
  obtain ⟨W0, hmk, hTM⟩ := make_terms l.len HLN.out w2
  have HTM := Lib.hid hTM
  clear hTM
  go_wp2_with fail
  go_loopw [20] (fun i wr => ∃ k : Nat, i = .int .i64 k ∧ k ≤ l.len ∧ Hid (TM w2 wr w2.heap.size l.len k)) (fun i _ => l.len - (intOf i).toNat)
  case atStart => exact ⟨0, rfl, Nat.zero_le _, HTM⟩
  case round =>
    clear hmk HTM
    obtain ⟨k, rfl, hk, HT⟩ := hrel
    by_cases hlt : k < l.len
    · obtain ⟨c0, _, _, _⟩ := HT.out.cs k hlt
      have z0 := HT.out.fz (k * 4)
      have hlb : l.len ≤ 1073741824 := HLN.out
      go_wp2_with fail
      go_roundw
      case rel => exact ⟨k + 1, by go_num, by omega, Lib.hid (HT.out.put hlt)⟩
      case measure => simp [intOf]; omega
    · obtain rfl : k = l.len := by omega
      replace HB := Lib.hid (HB.out.trans (HT.out.bel.mono HB.out.size))
      go_wp2_with fail
      refine (HRS.out _ _ _ HB.out HT.out).mono ?_
      intro e w3 h
      obtain ⟨qq, cq, rfl, hin, _, hB3⟩ := h.one
      replace HB := Lib.hid (HB.out.trans (hB3.mono HB.out.size))
      have HIQ := Lib.hid (And.intro hin (HL.out _ HB.out))
      clear hB3 hin h
      go_wp2_with fail
      refine (HSS.out _ _ _ _ _ HIQ.out.1 HIQ.out.2).mono ?_
      rintro e w4 ⟨rfl, hB4⟩
      replace HB := Lib.hid (HB.out.trans (hB4.mono HB.out.size))
      clear hB4 HIQ
      go_wp2_with fail
      refine (known_any _).mono ?_
      rintro e w9 ⟨rfl, hB9⟩
      replace HB := Lib.hid (HB.out.trans (hB9.mono HB.out.size))
      clear hB9
      go_wp2_with fail
      go_ret
      exact ⟨rfl, HB.out⟩
set_option maxRecDepth 100000 in
set_option maxHeartbeats 12800000 in
theorem thr_ct (G : GivenR w ta l pa pl cl) (K : GivenR w tb l pb pl cl) (h1 : smallB l = true) (h2 : smallT ta = true) (h3 : smallT tb = true) (hsh : l.shaped = true) (y z : Lf) (h4 : rwP st ta l br = (0, y)) (h6 : rwP st tb y br = (0, z)) :
    Calls Try.prog 3 #[.slice pa ta.len ca, .slice pb tb.len cb, .slice pl l.len cl, .int .u64 st, .bool br] w fun e w' => e = .returned (.bool true) ∧ Below w.heap.size w w' := by
  have HF := G.few
  rw [h1] at HF
  replace HF := Lib.hid HF
  have HSa := fun w1 hb => G.small ca w1 hb
  rw [h2] at HSa
  replace HSa := Lib.hid HSa
  have HSb := fun w1 hb => K.small cb w1 hb
  rw [h3] at HSb
  replace HSb := Lib.hid HSb
  have HL := Lib.hid (fun (w1 : World) (hb : Below w.heap.size w w1) => (show l.In w1 w1.heap.size pl from (In_later G.hl hb (Nat.le_refl _)).later (Below.refl _ _) hb.size))
  have HN := Lib.hid (fun (w1 : World) (hb : Below w.heap.size w w1) => through_none l pl cl st br w1 (HL.out w1 hb) (by have := G.wl; omega))
  have HSS := Lib.hid (same_self l)
  have HFi := fun (w1 : World) (hb : Below w.heap.size w w1) => fits_any l pl cl _ w1 (HL.out w1 hb) (Nat.le_refl _)
  rw [hsh] at HFi
  replace HFi := Lib.hid HFi
  have HLN := Lib.hid (show l.len ≤ 1073741824 by have := Lf.len_wt l; have := G.wl; omega)
  have HRS := Lib.hid (fun (w7 wr : World) (g : Nat) (hb : Below w.heap.size w wr) (h : TM w7 wr g l.len l.len) => (show Calls Try.prog 9 #[.slice (some ⟨g, 0, none⟩) l.len l.len, .slice pl l.len cl, .int .u64 st, .bool false] wr (RwOut (0, l) wr) from by
    have hn := samesT_nums l.len
    have hl60 : l.depth ≤ 60 ∧ l.weight ≤ 3000 := by simpa [smallB] using h1
    have hlw : l.len ≤ 1000000 := by have := Lf.len_wt l; have := G.wl; have := Lf.len_weight l; omega
    have := rewrite_any (samesT l.len) l (some ⟨g, 0, none⟩) pl l.len cl false wr.heap.size st wr (h.in (by omega)) (HL.out wr hb) (Nat.le_refl _) (fun b o _ => samesT_cap _ _ _ _) (by omega) (by omega) (by omega) (by omega) (by have := G.wl; omega)
    rw [samesT_len, same_plain st h1 hsh] at this
    exact this))
  have HRa := fun (w1 : World) (hb : Below w.heap.size w w1) => G.rewrite h2 ca br st (ca := cl) w1 hb (HL.out w1 hb) (by have := G.wl; omega)
  rw [h4] at HRa
  have HRb := fun (w1 : World) (q : Option Addr) (c : Nat) (hb : Below w.heap.size w w1) (hi : y.In w1 w1.heap.size q) => K.rewrite h3 cb br st (ca := c) w1 hb hi (rwP_wt h2 G.wl h4)
  rw [h6] at HRb
  have HTh := Lib.hid (fun (w1 : World) (g : Nat) (hb : Below w.heap.size w w1) g0 g1 => through_c pa pb pl ta.len tb.len l.len ca cb cl st br g w1 y z g0 g1 (fun w2 hb2 => HRa w2 (hb.trans (hb2.mono hb.size))) (fun w2 q c hb2 hi => HRb w2 q c (hb.trans (hb2.mono hb.size)) hi))
  replace HRa := Lib.hid HRa
  replace HRb := Lib.hid HRb
  have HZZ := Lib.hid (same_self z)
  clear G K h1 h2 h3 h4 h6 hsh
  go_enter Try.func3, Try.ntmps3
  go_wp2_with fail
  refine HF.out.mono ?_
  rintro e w1 ⟨rfl, hB1⟩
  have HB := Lib.hid hB1
  clear hB1
  go_wp2_with fail
  refine (HSa.out _ HB.out).mono ?_
  rintro e w2 ⟨rfl, hB2⟩
  replace HB := Lib.hid (HB.out.trans (hB2.mono HB.out.size))
  clear hB2
  go_wp2_with fail
  refine (HSb.out _ HB.out).mono ?_
  rintro e w2 ⟨rfl, hB2⟩
  replace HB := Lib.hid (HB.out.trans (hB2.mono HB.out.size))
  clear hB2
  go_wp2_with fail
  have HB' := HB
  replace HB := Lib.hid (HB.out.alloc HB.out.size (Obj.cells #[.slice pa ta.len ca, .slice pb tb.len cb] 22))
  refine (HTh.out _ _ HB.out (by simp [go_sem]) (by simp [go_sem])).mono ?_
  intro e w3 h
  obtain ⟨qx, cx, rfl, hix, _, hB2⟩ := h.one
  replace HB := Lib.hid (HB.out.trans (hB2.mono HB.out.size))
  have HIX := Lib.hid hix
  clear hix
  clear HB'
  clear hB2 h
  go_wp2_with fail
  refine (HRa.out _ HB.out).mono ?_
  intro e w3 h
  obtain ⟨qy, cy, rfl, hiy, _, hB2⟩ := h.one
  replace HB := Lib.hid (HB.out.trans (hB2.mono HB.out.size))
  have HIY := Lib.hid hiy
  replace HIX := Lib.hid (HIX.out.later hB2 hB2.size)
  clear hiy
  clear hB2 h
  go_wp2_with fail
  refine (HRb.out _ _ _ HB.out HIY.out).mono ?_
  intro e w3 h
  obtain ⟨qz, cz, rfl, hiz, _, hB2⟩ := h.one
  replace HB := Lib.hid (HB.out.trans (hB2.mono HB.out.size))
  have HIZ := Lib.hid (And.intro (HIX.out.later hB2 hB2.size) hiz)
  clear HIY HIX hiz
  clear hB2 h
  go_wp2_with fail
  refine (HZZ.out _ _ _ _ _ HIZ.out.1 HIZ.out.2).mono ?_
  rintro e w2 ⟨rfl, hB2⟩
  replace HB := Lib.hid (HB.out.trans (hB2.mono HB.out.size))
  clear hB2 HIZ
  go_wp2_with fail
  refine (HN.out _ HB.out).mono ?_
  rintro e w2 ⟨qp, cp, rfl, hin, hB2⟩
  replace HB := Lib.hid (HB.out.trans (hB2.mono HB.out.size))
  have HIP := Lib.hid (And.intro hin (HL.out _ HB.out))
  clear hB2 hin
  go_wp2_with fail
  refine (HSS.out _ _ _ _ _ HIP.out.1 HIP.out.2).mono ?_
  rintro e w2 ⟨rfl, hB2⟩
  replace HB := Lib.hid (HB.out.trans (hB2.mono HB.out.size))
  clear hB2 HIP
  go_wp2_with fail
  refine (HFi.out _ HB.out).mono ?_
  rintro e w2 ⟨rfl, hB2⟩
  replace HB := Lib.hid (HB.out.trans (hB2.mono HB.out.size))
  clear hB2
  obtain ⟨W0, hmk, hTM⟩ := make_terms l.len HLN.out w2
  have HTM := Lib.hid hTM
  clear hTM
  go_wp2_with fail
  go_loopw [20] (fun i wr => ∃ k : Nat, i = .int .i64 k ∧ k ≤ l.len ∧ Hid (TM w2 wr w2.heap.size l.len k)) (fun i _ => l.len - (intOf i).toNat)
  case atStart => exact ⟨0, rfl, Nat.zero_le _, HTM⟩
  case round =>
    clear hmk HTM
    obtain ⟨k, rfl, hk, HT⟩ := hrel
    by_cases hlt : k < l.len
    · obtain ⟨c0, _, _, _⟩ := HT.out.cs k hlt
      have z0 := HT.out.fz (k * 4)
      have hlb : l.len ≤ 1073741824 := HLN.out
      go_wp2_with fail
      go_roundw
      case rel => exact ⟨k + 1, by go_num, by omega, Lib.hid (HT.out.put hlt)⟩
      case measure => simp [intOf]; omega
    · obtain rfl : k = l.len := by omega
      replace HB := Lib.hid (HB.out.trans (HT.out.bel.mono HB.out.size))
      go_wp2_with fail
      refine (HRS.out _ _ _ HB.out HT.out).mono ?_
      intro e w3 h
      obtain ⟨qq, cq, rfl, hin, _, hB3⟩ := h.one
      replace HB := Lib.hid (HB.out.trans (hB3.mono HB.out.size))
      have HIQ := Lib.hid (And.intro hin (HL.out _ HB.out))
      clear hB3 hin h
      go_wp2_with fail
      refine (HSS.out _ _ _ _ _ HIQ.out.1 HIQ.out.2).mono ?_
      rintro e w4 ⟨rfl, hB4⟩
      replace HB := Lib.hid (HB.out.trans (hB4.mono HB.out.size))
      clear hB4 HIQ
      go_wp2_with fail
      refine (known_any _).mono ?_
      rintro e w9 ⟨rfl, hB9⟩
      replace HB := Lib.hid (HB.out.trans (hB9.mono HB.out.size))
      clear hB9
      go_wp2_with fail
      go_ret
      exact ⟨rfl, HB.out⟩
end
theorem law_through (ta tb : Tf) (l : Lf) (pa pb pl : Option Addr) (ca cb cl : Nat) (st : Int) (br : Bool) (w : World) (G : GivenR w ta l pa pl cl) (K : GivenR w tb l pb pl cl) :
    Calls Try.prog 3 #[.slice pa ta.len ca, .slice pb tb.len cb, .slice pl l.len cl, .int .u64 st, .bool br] w fun e w' => e = .returned (.bool true) ∧ Below w.heap.size w w' := by
  cases h1 : smallB l with
  | false => exact thr_few ta tb l pa pb pl ca cb cl st br w G K h1
  | true =>
    cases h2 : smallT ta with
    | false => exact thr_sa ta tb l pa pb pl ca cb cl st br w G K h1 h2
    | true =>
      cases h3 : smallT tb with
      | false => exact thr_sb ta tb l pa pb pl ca cb cl st br w G K h1 h2 h3
      | true =>
        by_cases h4 : (rwP st ta l br).1 = 0
        · obtain ⟨_, _, y, _, _, _, _, e1⟩ := rwP_inv h4
          by_cases h5 : (rwP st tb y br).1 = 0
          · obtain ⟨_, _, z, _, _, _, _, e2⟩ := rwP_inv h5
            cases h6 : l.shaped with
            | false => exact thr_cf ta tb l pa pb pl ca cb cl st br w G K h1 h2 h3 h6 y z e1 e2
            | true => exact thr_ct ta tb l pa pb pl ca cb cl st br w G K h1 h2 h3 h6 y z e1 e2
          · have e2 : rwP st tb y br = ((rwP st tb y br).1, .nil) := Prod.ext rfl (rwP_bad h5)
            cases h6 : l.shaped with
            | false => exact thr_bf ta tb l pa pb pl ca cb cl st br w G K h1 h2 h3 h6 y _ e1 e2 h5
            | true => exact thr_bt ta tb l pa pb pl ca cb cl st br w G K h1 h2 h3 h6 y _ e1 e2 h5
        · have e1 : rwP st ta l br = ((rwP st ta l br).1, .nil) := Prod.ext rfl (rwP_bad h4)
          cases h6 : l.shaped with
          | false => exact thr_af ta tb l pa pb pl ca cb cl st br w G K h1 h2 h3 h6 _ e1 h4
          | true => exact thr_at ta tb l pa pb pl ca cb cl st br w G K h1 h2 h3 h6 _ e1 h4
end Go.Proofs.Ytcadeeldogknmaa
