/- A function's lines, shown one by one. -/
import Derived.Test.YtkjhofnkgcjcoaaDoorP29
import Derived.Test.YtkjhofnkgcjcoaaDoorP36
import Derived.Test.YtkjhofnkgcjcoaaDoorP37
import Derived.Test.YtkjhofnkgcjcoaaDoorP33
namespace Go.Proofs.YtkjhofnkgcjcoaaDoor
open Go.RowKit
attribute [local go_sem] Oper.semAt_some

/-- who is shown lines, and what he leaves -/
structure FnEnv (l M N : Nat) (w0 : World) (L : List (Nat × List UInt8)) (J Jx : Nat → World → Prop) : Prop where
  gl : Glob w0
  mv : ∀ k A B, J k A → Rn N A B → J k B
  mx : ∀ k A B, Jx k A → Rn N A B → Jx k B
  bel : ∀ k A, J k A → Below w0.heap.size w0 A
  hn : ∀ k A, J k A → N ≤ A.heap.size
  yl : ∀ k x W1, L[k]? = some x → J k W1 → YieldAt Fence.wide M Tryd.prog l (encL x) W1 fun e W' => ∃ v, e = .returned (.bool v) ∧ JJ J Jx v (k + 1) W' ∧ Up N W1 W'
theorem FnEnv.drew {l M N : Nat} {w0 : World} {L : List (Nat × List UInt8)} {J Jx : Nat → World → Prop} (E : FnEnv l M N w0 L J Jx) {k : Nat} {A : World} (h : J k A) : J k A.drew := E.mv k A _ h ⟨(Below.refl _ A).drew, fun _ _ h _ => h⟩
theorem FnEnv.fwd {l M N : Nat} {w0 : World} {L : List (Nat × List UInt8)} {J Jx : Nat → World → Prop} (E : FnEnv l M N w0 L J Jx) {k : Nat} {A B : World} (h : J k A) (hB : Below A.heap.size A B) : J k B := E.mv k A B h (Rn.of_below hB (E.hn k A h))

/-- what the first line's showing leaves -/
def PostA (b o l n3 : Nat) (hs : ByteArray) (R : Bool → World → Prop) : Exit → Act → World → Prop
  | .normal, a, W => ∃ v, a = { tmps := #[.pointer (some ⟨b, o, none⟩), .func (.yield l) #[] #[], undef, .pointer (some ⟨n3, 0, none⟩), .pointer (some ⟨n3 + 1, 0, none⟩), undef, undef, undef, undef, .func (.yield l) #[] #[], .pointer (some ⟨b, o, none⟩), .string hs, .bool v, .bool (!v), undef, undef, undef, undef, undef, undef, undef, undef, undef, undef, undef, undef, undef, undef, undef, undef, undef, undef, undef, undef, undef, undef, undef, undef, undef, undef, undef, undef, undef, undef], defers := [] } ∧ R v W
  | _, _, _ => False
/-- what a variable's line's showing leaves -/
def PostB (b o l n3 nw n bv ov k cv : Nat) (hs hvs : ByteArray) (VA u28 : Value) (R : Bool → World → Prop) : Exit → Act → World → Prop
  | .normal, a, W => ∃ v, a = { tmps := #[.pointer (some ⟨b, o, none⟩), .func (.yield l) #[] #[], undef, .pointer (some ⟨n3, 0, none⟩), .pointer (some ⟨n3 + 1, 0, none⟩), undef, .pointer (some ⟨nw, 0, none⟩), undef, undef, .func (.yield l) #[] #[], .pointer (some ⟨b, o, none⟩), .string hs, .bool true, .bool false, .pointer (some ⟨b, o, none⟩), .pointer (some ⟨b, o, none⟩), .pointer (some ⟨b, o + 2, none⟩), .slice (some ⟨bv, ov, none⟩) n cv, .int .i64 (n : Int), .int .i64 (k : Int), .bool true, .pointer (some ⟨bv, ov + k * 4, none⟩), VA, .func (.yield l) #[] #[], VA, .string hvs, .bool v, .bool (!v), u28, undef, undef, undef, undef, undef, undef, undef, undef, undef, undef, undef, undef, undef, undef, undef], defers := [] } ∧ R v W
  | _, _, _ => False
theorem can_deep {f : Fnc} (h : f.may = true) : f.body.deep ≤ 64 := by
  unfold Fnc.may Sts.can at h
  simp only [Bool.and_eq_true, decide_eq_true_eq] at h
  exact h.2.2.2.2.1
set_option maxRecDepth 100000 in
set_option maxHeartbeats 6400000 in
theorem showFunc_any {l M N : Nat} {w0 : World} {L : List (Nat × List UInt8)} {J Jx : Nat → World → Prop} (E : FnEnv l M N w0 L J Jx) (f : Fnc) (b o d : Nat) (hb : b < w0.heap.size) (hf : f.At w0 w0.heap.size b o) (hm : f.may = true) (hfit : f.fit) (hp : f.params.length ≤ 1000000)
    (hlen : ∀ y ∈ f.lines, y.2.length ≤ 1000000) (hseg : Seg L d f.lines) (w : World) (h0 : J d w) :
    Calls Tryd.prog 41 #[.pointer (some ⟨b, o, none⟩), .func (.yield l) #[] #[]] w fun e w' => ∃ v, e = .returned (.bool v) ∧ Shown J Jx L (d + f.lines.length) v w' := by
  have HE := Lib.hid E
  have HJ0 := Lib.hid h0
  have hN := E.hn _ _ h0
  obtain ⟨s, cc, ok⟩ := hf.open
  have HFL := Lib.hid (fun (w1 : World) (hB : Below w0.heap.size w0 w1) => funcLine_any f b o w1 (Nat.lt_of_lt_of_le hb hB.size) (Fnc.At.later hB hB.size f b o hb hf) hp (hlen _ (by rw [Fnc.lines]; exact List.mem_cons_self)))
  obtain ⟨nm, ps, vs, rs, bd⟩ := f
  have x2 : w0.cell? ⟨b, o + 2, none⟩ = some (.slice s.pv vs.length s.cv) := cc 2 _ rfl
  have x4 : w0.cell? ⟨b, o + 4, none⟩ = some (.slice s.pb bd.len s.cb) := cc 4 _ rfl
  obtain ⟨hs, hdt⟩ : ∃ k, str (Fnc.mk nm ps vs rs bd).head = k := ⟨_, rfl⟩
  rw [hdt] at HFL
  have hyl0 : encL (0, (Fnc.mk nm ps vs rs bd).head) = #[.int .i64 0, .string hs] := by rw [← hdt]; rfl
  have hL0 : L[d]? = some (0, (Fnc.mk nm ps vs rs bd).head) := by rw [Fnc.lines] at hseg; exact hseg.head
  clear h0 E hf cc hdt
  refine (callsIn_wide (n := M + 1)).1 ?_
  refine callsIn_of_wp_marks Tryd.func41 rfl trivial ?_ rfl
  simp only [Tryd.ntmps41, List.size_toArray, List.length_cons, List.length_nil, Nat.reduceAdd, Nat.reduceSub, Array.replicate_succ, Array.replicate_zero, List.push_toArray, List.append_toArray, List.nil_append, List.cons_append]
  gi_wp2_with fail
  obtain ⟨w1, hw1⟩ : ∃ w1, (w.alloc (.cells #[.func (.yield l) #[] #[]] 94)).alloc (.cells #[.bool false] 4) = w1 := ⟨_, rfl⟩
  have HB1 := Lib.hid (show Below w.heap.size w w1 by rw [← hw1]; exact ((Below.refl _ w).alloc (Nat.le_refl _) _).alloc (by simp) _)
  have k3 : w1.heap[w.heap.size]? = some (.cells #[.func (.yield l) #[] #[]] 94 (0, 0)) := by
    rw [← hw1, Below.heap_alloc _ _ _ (by simp)]; exact heap_alloc_new w _
  have k4 : w1.heap[w.heap.size + 1]? = some (.cells #[.bool false] 4 (0, 0)) := by
    rw [← hw1]; have := heap_alloc_new (w.alloc (.cells #[.func (.yield l) #[] #[]] 94)) (.cells #[.bool false] 4); simpa using this
  rw [hw1]
  have HJ1 := Lib.hid (HE.out.fwd HJ0.out HB1.out)
  generalize hn3 : w.heap.size = n3 at *
  have c3 := cell_of_one k3
  have HK3 := Lib.hid k3
  have HK4 := Lib.hid k4
  clear hw1 k3 k4 HB1 HJ0
  have HJD := Lib.hid (HE.out.drew HJ1.out)
  gi_wp2_with fail
  refine wpIn_mono (Q := PostA b o l n3 hs (fun v W => ∃ w2, Below w1.heap.size w1.drew w2 ∧ JJ J Jx v (d + 1) W ∧ Up N w2 W)) ?_ ?_
  · gi_region_with (first
    | (refine ⟨trivial, ?_⟩; gi_at_call 64; refine (callsIn_wide.2 (HFL.out w1.drew (HE.out.bel _ _ HJD.out))).mono ?_; rintro e w2 ⟨rfl, hB2⟩; have c3 := (hB2.cell (p := ⟨n3, 0, none⟩) (lt_of_block HK3.out)).trans c3; obtain ⟨fn, tmps, assign, body, hy, hR⟩ := HE.out.yl d _ w2 hL0 (HE.out.fwd HJD.out hB2); rw [hyl0] at hy)
    | (refine hR.mono ?_; rintro e w3 ⟨v, rfl, hj, hU⟩))
    all_goals exact ⟨v, rfl, w2, hB2, hj, hU⟩
  intro e a w3 hP
  cases e <;> try exact hP.elim
  obtain ⟨v, rfl, w2, hB2, hj, hU⟩ := hP
  have HK3' := Lib.hid (hU.same n3 _ ((hB2.block n3 (lt_of_block HK3.out)).trans HK3.out) hN (buf_fn _ _))
  have HK4' := Lib.hid (hU.same (n3 + 1) _ ((hB2.block (n3 + 1) (lt_of_block HK4.out)).trans HK4.out) (by omega) (buf_bool _ _))
  have HV := Lib.hid hj
  clear hj hU hB2 c3 HK3 HK4 HJ1 HJD HFL hL0 hyl0
  have c4 := cell_of_one HK4'.out
  have f4 := free_of_one HK4'.out
  have hd1 : d + 1 ≤ L.length := by have := hseg.len; rw [Fnc.lines, List.length_cons] at this; omega
  rcases HV.out with ⟨rfl, hj⟩ | ⟨rfl, hj⟩
  rotate_left
  · have HX := Lib.hid hj
    clear hj HV
    gi_wp2_with fail
    have cc : (w3.setCell ⟨n3 + 1, 0, none⟩ (.bool false)).cell? ⟨n3 + 1, 0, none⟩ = some (.bool false) := cell_of_one (one_setCell HK4'.out)
    refine ⟨.bool false, by simp [results, Tryd.results41, go_sem, cc], ?_⟩
    exact ⟨false, rfl, .inr ⟨rfl, d + 1, hd1, HE.out.mx _ _ _ HX.out ((Rn.refl _ _).setCell (p := ⟨n3 + 1, 0, none⟩) HK4'.out (buf_bool _ _) (by show N ≤ n3 + 1; omega) _)⟩⟩
  have HJ1 := Lib.hid hj
  clear hj HV
  rw [Fnc.lines] at hseg
  have hsg1 := hseg.tail
  have c2 := ((HE.out.bel _ _ HJ1.out).cell (p := ⟨b, o + 2, none⟩) hb).trans x2
  have hmv := (fnc_parts hm).2.2.1
  have hvl : vs.length ≤ 140737488355328 := ok.2.1.1
  have S1 := Lib.hid ok.2.1
  have HFt := Lib.hid hfit.2
  have HMv := Lib.hid (List.all_eq_true.1 hmv)
  have HLn := Lib.hid (fun v (hv : v ∈ vs) => hlen (1, Vr.line v) (by rw [Fnc.lines]; exact List.mem_cons_of_mem _ (List.mem_append_left _ (List.mem_map.2 ⟨v, hv, rfl⟩))))
  have HSg := Lib.hid hsg1
  clear hmv hsg1
  gi_wp2_with fail
  clear c2 c4 f4
  gi_loopw [19] (fun i wr => ∃ (k e : Nat) (r : List Vr), i = .int .i64 k ∧ k + r.length = vs.length ∧ e + r.length = d + 1 + vs.length ∧ Hid (∀ v ∈ r, v ∈ vs) ∧ Hid (∀ b o, s.pv = some ⟨b, o, none⟩ → Row (Vr.At w0) 4 vs b o → Row (Vr.At w0) 4 r b (o + k * 4)) ∧ Hid (Seg L e (r.map (fun v => (1, v.line)) ++ (bd.lines 1 ++ [(0, [125])]))) ∧ Hid (J e wr) ∧ Hid (wr.heap[n3]? = some (.cells #[.func (.yield l) #[] #[]] 94 (0, 0)) ∧ wr.heap[n3 + 1]? = some (.cells #[.bool false] 4 (0, 0)))) (fun i _ => vs.length - (intOf i).toNat)
  case atStart => exact ⟨0, d + 1, vs, rfl, by omega, rfl, Lib.hid fun v h => h, Lib.hid fun b o _ h => by rw [Nat.zero_mul]; exact h, HSg, HJ1, Lib.hid ⟨HK3'.out, HK4'.out⟩⟩
  case round =>
    obtain ⟨k, e, r, rfl, hk, hed, hmem, hat, hS, hJ, hK⟩ := hrel
    cases r with
    | cons v r =>
      simp only [List.length_cons] at hk
      have hlt : k < vs.length := by omega
      obtain ⟨bv, ov, hpv, hbv, hA⟩ : ∃ b o, s.pv = some ⟨b, o, none⟩ ∧ b < w0.heap.size ∧ Row (Vr.At w0) 4 vs b o := by
        rcases S1.out.2 with h0 | h0
        · omega
        · exact h0
      obtain ⟨hx, hr⟩ := hat.out bv ov hpv hA
      have HR := Lib.hid hr
      have hBw := HE.out.bel _ _ hJ.out
      obtain ⟨g0, g1, g2, g3⟩ := Vr.At.later hBw v bv _ hbv hx
      have hv := hmem.out v (by simp)
      have hsg := hS.out
      rw [List.map_cons, List.cons_append] at hsg
      obtain ⟨hvs, hdv⟩ : ∃ k, str v.line = k := ⟨_, rfl⟩
      have HVL := Lib.hid (fun (w1 : World) (hB : Below w0.heap.size w0 w1) => varLine_any v (HMv.out v hv) (HFt.out v hv) w1 (HE.out.gl.later hB) (HLn.out v hv))
      rw [hdv] at HVL
      have hylv : encL (1, v.line) = #[.int .i64 1, .string hvs] := by rw [← hdv]; rfl
      have hLv := hsg.head
      have hsgT := hsg.tail
      have hwN : wr.heap.size ≥ N := HE.out.hn _ _ hJ.out
      have hbvw : bv < wr.heap.size := Nat.lt_of_lt_of_le hbv hBw.size
      obtain ⟨k3, k4⟩ := hK.out
      have hl3 := lt_of_block k3
      have hl4 := lt_of_block k4
      have c3 := cell_of_one k3
      rw [hpv]
      clear hdv hx hr hA hsg
      gi_wp2_with fail
      obtain ⟨wA, hwA⟩ : ∃ wA, wr.alloc (.cells #[.string (str v.name), .int .i64 v.kind, .int .i64 v.size, .bool v.secret] 48) = wA := ⟨_, rfl⟩
      have hBA : Below wr.heap.size wr wA := by rw [← hwA]; exact (Below.refl _ _).alloc (Nat.le_refl _) _
      have k6 : wA.heap[wr.heap.size]? = some (.cells #[.string (str v.name), .int .i64 v.kind, .int .i64 v.size, .bool v.secret] 48 (0, 0)) := by rw [← hwA]; exact heap_alloc_new wr _
      have v0 : wA.cell? ⟨wr.heap.size, 0, none⟩ = some (.string (str v.name)) := cell_block k6 rfl
      have v1 : wA.cell? ⟨wr.heap.size, 1, none⟩ = some (.int .i64 v.kind) := cell_block k6 rfl
      have v2 : wA.cell? ⟨wr.heap.size, 2, none⟩ = some (.int .i64 v.size) := cell_block k6 rfl
      have v3 : wA.cell? ⟨wr.heap.size, 3, none⟩ = some (.bool v.secret) := cell_block k6 rfl
      rw [hwA]
      have hA3 := (hBA.block n3 hl3).trans k3
      have hA4 := (hBA.block (n3 + 1) hl4).trans k4
      have c3 := cell_of_one hA3
      have HJA := Lib.hid (HE.out.drew (HE.out.fwd hJ.out hBA))
      have HA := Lib.hid (And.intro hA3 hA4)
      have hzA := hBA.size
      clear hwA k6 hBA hA3 hA4 k3 k4 g0 g1 g2 g3
      refine wpIn_mono (Q := PostB b o l n3 wr.heap.size vs.length bv ov k s.cv hs hvs (.agg #[.string (str v.name), .int .i64 v.kind, .int .i64 v.size, .bool v.secret]) u28 (fun q W => ∃ w2, Below wA.heap.size wA.drew w2 ∧ JJ J Jx q (e + 1) W ∧ Up N w2 W)) ?_ ?_
      · gi_region_with (first
        | (refine ⟨trivial, ?_⟩; gi_at_call 65; refine (callsIn_wide.2 (HVL.out wA.drew (HE.out.bel _ _ HJA.out))).mono ?_; rintro z w2 ⟨rfl, hB2⟩; have c3 := (hB2.cell (p := ⟨n3, 0, none⟩) (lt_of_block HA.out.1)).trans c3; obtain ⟨fn, tmps, assign, body, hy, hR⟩ := HE.out.yl e _ w2 hLv (HE.out.fwd HJA.out hB2); rw [hylv] at hy)
        | (refine hR.mono ?_; rintro z w4 ⟨q, rfl, hj, hU⟩))
        all_goals exact ⟨q, rfl, w2, hB2, hj, hU⟩
      intro z a w4 hP
      cases z <;> try exact hP.elim
      obtain ⟨q, rfl, w2, hB2, hj, hU⟩ := hP
      have k3 := hU.same n3 _ ((hB2.block n3 (lt_of_block HA.out.1)).trans HA.out.1) hN (buf_fn _ _)
      have k4 := hU.same (n3 + 1) _ ((hB2.block (n3 + 1) (lt_of_block HA.out.2)).trans HA.out.2) (by omega) (buf_bool _ _)
      have he1 : e + 1 ≤ L.length := by have := hS.out.len; rw [List.map_cons, List.cons_append, List.length_cons] at this; omega
      have HK4 := Lib.hid (And.intro k3 k4)
      clear hB2 hU c3 v0 v1 v2 v3
      rcases hj with ⟨rfl, hj⟩ | ⟨rfl, hj⟩
      · have HJ4 := Lib.hid hj
        clear hj k3 k4
        gi_wp2_with fail
        refine ⟨⟨k + 1, e + 1, r, by go_num, by omega, by simp only [List.length_cons] at hed; omega, Lib.hid fun x hx => hmem.out x (List.mem_cons_of_mem _ hx), Lib.hid fun b' o' e' _ => by cases e'; rw [show ov + (k + 1) * 4 = ov + k * 4 + 4 by omega]; exact HR.out, Lib.hid hsgT, HJ4, HK4⟩, by simp [intOf]; omega⟩
      · have HX := Lib.hid hj
        clear hj
        have c4 := cell_of_one k4
        have f4 := free_of_one k4
        gi_wp2_with fail
        have cc : (w4.setCell ⟨n3 + 1, 0, none⟩ (.bool false)).cell? ⟨n3 + 1, 0, none⟩ = some (.bool false) := cell_of_one (one_setCell k4)
        refine ⟨.bool false, by simp [results, Tryd.results41, go_sem, cc], ?_⟩
        exact ⟨false, rfl, .inr ⟨rfl, e + 1, he1, HE.out.mx _ _ _ HX.out ((Rn.refl _ _).setCell (p := ⟨n3 + 1, 0, none⟩) k4 (buf_bool _ _) (by show N ≤ n3 + 1; omega) _)⟩⟩
    | nil =>
      simp only [List.length_nil, Nat.add_zero] at hk hed
      have hge : ¬ k < vs.length := by omega
      have hsg := hS.out
      rw [List.map_nil, List.nil_append] at hsg
      have hBw := HE.out.bel _ _ hJ.out
      have hbw : b < wr.heap.size := Nat.lt_of_lt_of_le hb hBw.size
      have c4 := (hBw.cell (p := ⟨b, o + 4, none⟩) hb).trans x4
      have hwN : N ≤ wr.heap.size := HE.out.hn _ _ hJ.out
      gi_wp2_with fail
      refine ⟨trivial, ?_⟩
      refine (callsIn_wide.2 (stmtLines_any _ _ _ _)).mono ?_
      rintro z w4 ⟨bx, rfl, hx, hbx, hB4⟩
      obtain ⟨k3, k4⟩ := hK.out
      have hz3 := lt_of_block k3
      have hz4 := lt_of_block k4
      have hzw := hB4.size
      have HI := Lib.hid (show J (e + 0) w4 ∧ w4.heap[n3]? = some (.cells #[.func (.yield l) #[] #[]] 94 (0, 0)) ∧ w4.heap[n3 + 1]? = some (.cells #[.bool false] 4 (0, 0)) from
        ⟨HE.out.fwd hJ.out hB4, (hB4.block n3 hz3).trans k3, (hB4.block (n3 + 1) hz4).trans k4⟩)
      have hcan := (fnc_parts hm).2.2.2.2
      have hdeep : bd.deep ≤ 64 := can_deep hm
      have hln0 : ∀ y ∈ bd.lines 0, y.2.length ≤ 1000000 := fun y hy => hlen (upL y) (by rw [Fnc.lines, Sts.lines_up bd 0]; exact List.mem_cons_of_mem _ (List.mem_append_right _ (List.mem_append_left _ (List.mem_map.2 ⟨y, hy, rfl⟩))))
      have hXX := Lib.hid hx
      have hup : bd.lines 1 = (bd.lines 0).map upL := Sts.lines_up bd 0
      have hll : (bd.lines 1).length = (bd.lines 0).length := by rw [hup, List.length_map]
      have hget : ∀ (j : Nat) (x : Nat × List UInt8), (bd.lines 0)[j]? = some x → L[e + j]? = some (x.1 + 1, x.2) := fun j x h => hsg.left.get (by rw [hup, List.getElem?_map, h]; rfl)
      have hlast : L[e + (bd.lines 0).length]? = some (0, [125]) := by rw [← hll]; exact hsg.right.head
      have htab : ∀ (j : Nat) (x : Nat × List UInt8), (bd.lines 0)[j]? = some x → x.1 ≤ 64 := fun j x h => by
        have := Sts.lines_ok bd 0 (ok.2.2.2.fine) x (List.mem_of_getElem? h)
        have := this.2.1
        omega
      have hfin : e + (bd.lines 0).length + 1 ≤ L.length := by have := hsg.len; rw [List.length_append, hll, List.length_cons, List.length_nil] at this; omega
      have HFin := Lib.hid hfin
      have HTot := Lib.hid (show d + (Fnc.mk nm ps vs rs bd).lines.length = e + (bd.lines 0).length + 1 by simp only [Fnc.lines, List.length_cons, List.length_append, List.length_map, hll, List.length_nil]; omega)
      clear c4 hJ hK hB4 k3 k4 hx hS hsg hup hfin
      gi_wp2_with fail
      have hN4 : N ≤ w4.heap.size := HE.out.hn _ _ HI.out.1
      have hn4 : n3 + 1 < w4.heap.size := lt_of_block HI.out.2.2
      have HGet := Lib.hid hget
      have HTab := Lib.hid htab
      have HLast := Lib.hid hlast
      clear hget htab hlast
      refine range_own (F := Fence.wide) rfl (by omega) (gf := 73) (lb := #[.pointer (some ⟨bx, 0, none⟩)]) rfl trivial (enters_of Tryd.func73 (by kernel_rfl) rfl)
        (stmtLines1_all bd s.pb s.cb bx (M + 1 - 1) w0 w4 hcan (by omega) hln0 ok.2.2.2 HE.out.gl hXX.out) (Below.refl _ w4) (fun _ => rfl)
        (fun j W => J (e + j) W ∧ W.heap[n3]? = some (.cells #[.func (.yield l) #[] #[]] 94 (0, 0)) ∧ W.heap[n3 + 1]? = some (.cells #[.bool false] 4 (0, 0)))
        (fun cd _ W => cd = .ret ∧ (∃ i, i ≤ L.length ∧ Jx i W) ∧ W.heap[n3 + 1]? = some (.cells #[.bool false] 4 (0, 0))) (fun j A h => HE.out.bel _ _ h.1)
        (fun j A B h hAB => ⟨HE.out.mv _ _ _ h.1 (hAB.mono hN4), (hAB.bel.block n3 (by omega)).trans h.2.1, (hAB.bel.block (n3 + 1) hn4).trans h.2.2⟩)
        (fun cd j A B h hAB => ⟨h.1, (by obtain ⟨i, hi, hx⟩ := h.2.1; exact ⟨i, hi, HE.out.mx _ _ _ hx (hAB.mono hN4)⟩), (hAB.bel.block (n3 + 1) hn4).trans h.2.2⟩) HI.out
        (fun _ _ _ => True) (fun _ _ _ _ _ _ => trivial) ?_ ?_ ?_ ?_ ?_
      rotate_left
      · intro l' j x W K hx hi hW hK
        simp only [encL]
        simp only [List.zip_toArray, List.zip_cons_cons, List.zip_nil_left]
        gi_wp2_with fail
        obtain ⟨bb, _⟩ : ∃ bb : Nat, bb = 0 := ⟨_, rfl⟩
        exact hK bb _ (Below.refl _ _) trivial
      · intro l' j x bb W hx hi hA hW
        obtain ⟨hj, k3, k4⟩ := hi
        have ht := HTab.out j x hx
        have hyl := Lib.hid (YieldAt.wide (M' := M + 1 - 1 - 1 - 1) (HE.out.yl _ _ W (HGet.out j x hx) hj))
        have c3 := cell_of_one k3
        have hl3 := lt_of_block k3
        have HK := Lib.hid (And.intro k3 k4)
        clear hj k3 k4
        obtain ⟨fn, tmps, assign, body, hy, hR⟩ := (show YieldAt (Fence.wide.inRound l') (M + 1 - 1 - 1 - 1) Tryd.prog l _ W _ from hyl.out)
        simp only [encL] at hy
        rw [show ((x.1 + 1 : Nat) : Int) = (x.1 : Int) + 1 by omega] at hy
        have HX := Lib.hid hx
        clear hyl hx
        gi_wp2_with fail
        refine ⟨fun h => (by cases h), ?_⟩
        refine hR.mono ?_
        rintro z w5 ⟨v, rfl, hj, hU⟩
        have k3 := hU.same n3 _ HK.out.1 hN (buf_fn _ _)
        have k4 := hU.same (n3 + 1) _ HK.out.2 (by omega) (buf_bool _ _)
        clear hy hR c3
        rcases hj with ⟨rfl, hj⟩ | ⟨rfl, hj⟩
        · have HP := Lib.hid (And.intro (hU.mono hN4) (And.intro hj (And.intro k3 k4)))
          clear hj hU k3 k4
          gi_wp2_with fail
          exact ⟨HP.out.1, by rw [← Nat.add_assoc]; exact HP.out.2.1, HP.out.2.2⟩
        · have HP := Lib.hid (And.intro (hU.mono hN4) (And.intro hj k4))
          have c4 := cell_of_one k4
          have f4 := free_of_one k4
          have hkL : e + j + 1 ≤ L.length := by have := (List.getElem?_eq_some_iff.1 (HGet.out j x HX.out)).1; omega
          clear hj hU k3 k4
          gi_wp2_with fail
          exact ⟨HP.out.1.setCell (p := ⟨n3 + 1, 0, none⟩) hn4 _, rfl, ⟨e + j + 1, hkL, HE.out.mx _ _ _ HP.out.2.1 ((Rn.refl _ _).setCell (p := ⟨n3 + 1, 0, none⟩) HP.out.2.2 (buf_bool _ _) (by show N ≤ n3 + 1; omega) _)⟩, one_setCell HP.out.2.2⟩
      · rintro D W hD ⟨hj, k3, k4⟩ hDh
        have c3 := cell_of_one k3
        have c4 := cell_of_one k4
        have f4 := free_of_one k4
        obtain ⟨fn, tmps, assign, body, hy, hR⟩ := HE.out.yl _ _ W HLast.out hj
        rw [show encL (0, [125]) = #[.int .i64 0, .string ⟨#[125]⟩] from rfl] at hy
        have hlt3 := lt_of_block k3
        have hlt4 := lt_of_block k4
        have hltD := lt_of_block hDh
        gi_wp2_with fail
        refine hR.mono ?_
        rintro z w5 ⟨v, rfl, hj2, hU⟩
        have k4' := hU.same (n3 + 1) _ k4 (by omega) (buf_bool _ _)
        have kD := hU.same D _ hDh (by omega) (buf_def _)
        have d4 := cell_of_one k4'
        have e4 := free_of_one k4'
        have HH := Lib.hid (And.intro hj2 (And.intro k4' kD))
        clear hj2 hU k4' kD c3 c4 f4 k3 k4 hDh hy hR hj
        gi_wp2_with fail
        obtain ⟨hj2, k4, kD⟩ := HH.out
        have hr2 := one_setCell (u := .bool v) k4
        have hs2 : Rn N w5 (w5.setCell ⟨n3 + 1, 0, none⟩ (.bool v)) := (Rn.refl _ _).setCell (p := ⟨n3 + 1, 0, none⟩) k4 (buf_bool _ _) (by show N ≤ n3 + 1; omega) _
        have hK' : (w5.setCell ⟨n3 + 1, 0, none⟩ (.bool v)).heap[D]? = some (.deferred (some [])) := (Below.heap_setCell w5 _ _ D (by show D ≠ n3 + 1; omega)).trans kD
        have hc2 : ((w5.setCell ⟨n3 + 1, 0, none⟩ (.bool v)).putObj D (.deferred none)).cell? ⟨n3 + 1, 0, none⟩ = some (.bool v) := (World.cell?_of_block (World.putObj_heap_other (by show n3 + 1 ≠ D; omega))).trans (cell_of_one hr2)
        refine ⟨by simp, .inl ⟨_, _, rfl, run_takeDeferred hK', ?_⟩⟩
        refine ⟨.bool v, by simp [results, Tryd.results41, go_sem, hc2], ?_⟩
        have hs3 := hs2.trans (rn_put (o' := .deferred (some [])) (.deferred none) (by omega) hK' (buf_def _))
        rcases hj2 with ⟨rfl, h⟩ | ⟨rfl, h⟩
        · exact ⟨true, rfl, .inl ⟨rfl, by rw [HTot.out]; exact HE.out.mv _ _ _ h hs3⟩⟩
        · exact ⟨false, rfl, .inr ⟨rfl, _, HFin.out, HE.out.mx _ _ _ h hs3⟩⟩
      · rintro D cd k' W hD hk' ⟨hc, ⟨i, hi, hxi⟩, k4⟩ hDh
        subst hc
        have HDh := Lib.hid hDh
        have HX := Lib.hid hxi
        have HK4 := Lib.hid k4
        have hlt4 := lt_of_block k4
        clear hDh hxi k4
        gi_wp2_with fail
        have hc2 : (W.putObj D (.deferred none)).cell? ⟨n3 + 1, 0, none⟩ = some (.bool false) := (World.cell?_of_block (World.putObj_heap_other (by show n3 + 1 ≠ D; omega))).trans (cell_of_one HK4.out)
        refine ⟨by simp, .inl ⟨_, _, rfl, run_takeDeferred HDh.out, ?_⟩⟩
        refine ⟨.bool false, by simp [results, Tryd.results41, go_sem, hc2], ?_⟩
        exact ⟨false, rfl, .inr ⟨rfl, i, hi, HE.out.mx _ _ _ HX.out (rn_put (o' := .deferred (some [])) (.deferred none) (by omega) HDh.out (buf_def _))⟩⟩
end Go.Proofs.YtkjhofnkgcjcoaaDoor
