/- Two lists that are the same, whole; a law's way over the tokens of a text. -/
import Derived.Test.YtgffiggnmklcoaaGreatDoorLM
import Derived.Test.YtgffiggnmklcoaaGreatDoorT4
namespace Go.Proofs.YtgffiggnmklcoaaGreatDoor
open Go.RowKit
attribute [local go_sem] Oper.semAt_some

set_option maxRecDepth 100000 in
set_option maxHeartbeats 3200000 in
theorem sameTk_any (ts : List Tk) (p q : Option Addr) (c d N : Nat) (w : World) (ha : TksIn w N ts p) (hb : TksIn w N ts q) (hN : N ≤ w.heap.size) (hl : ts.length ≤ 1000000) (_hc : ts.length ≤ c) (_hd : ts.length ≤ d) :
    Calls Tryz.prog 13 #[.slice p ts.length c, .slice q ts.length d] w fun e w' => e = .returned (.bool true) ∧ Below w.heap.size w w' := by
  have HA := Lib.hid ha
  have HB := Lib.hid hb
  clear ha hb
  obtain ⟨n, hn⟩ : ∃ n, ts.length = n := ⟨_, rfl⟩
  have HNn := Lib.hid hn
  rw [hn]
  rw [hn] at hl
  have HQ := Lib.hid neq_tok
  clear hn
  go_enter Tryz.func13, Tryz.ntmps13
  go_wp2_with fail
  go_loopw [5] (fun i wr => ∃ k : Nat, i = .int .i64 k ∧ k ≤ n ∧ Hid (Below w.heap.size w wr)) (fun i _ => n - (intOf i).toNat)
  case atStart => exact ⟨0, rfl, by omega, Lib.hid (Below.refl _ _)⟩
  case round =>
    obtain ⟨k, rfl, hk, hB⟩ := hrel
    by_cases hlt : k < n
    · obtain ⟨x, hx⟩ : ∃ x, ts[k]? = some x := ⟨_, List.getElem?_eq_getElem (by have := HNn.out; omega)⟩
      obtain ⟨b1, o1, rfl, hb1, hA1⟩ : ∃ b1 o1, p = some ⟨b1, o1, none⟩ ∧ b1 < N ∧ ∀ i t, ts[i]? = some t → TokAt w t b1 (o1 + i * 5) := by
        rcases HA.out with h0 | h0
        · have := HNn.out; omega
        · exact h0
      obtain ⟨b2, o2, rfl, hb2, hA2⟩ : ∃ b2 o2, q = some ⟨b2, o2, none⟩ ∧ b2 < N ∧ ∀ i t, ts[i]? = some t → TokAt w t b2 (o2 + i * 5) := by
        rcases HB.out with h0 | h0
        · have := HNn.out; omega
        · exact h0
      have hz1 : b1 < w.heap.size := by omega
      have hz2 : b2 < w.heap.size := by omega
      obtain ⟨c0, c1, c2, c3, c4⟩ := (hA1 k x hx).later hz1 hB.out
      obtain ⟨d0, d1, d2, d3, d4⟩ := (hA2 k x hx).later hz2 hB.out
      have HBn := Lib.hid (fun n => below_drewN' hB.out n)
      have nq := HQ.out x.kind x.word x.line x.col (str x.text)
      clear hx hA1 hA2 hb1 hb2
      have i0 : (0 : Int) ≤ (k : Int) := by omega
      have i1 : (k : Int) < (n : Int) := by omega
      go_wp2_with fail
      go_quiet (fail)
      go_wp2_with fail
      go_roundw
      case rel => exact ⟨k + 1, by go_num, by omega, Lib.hid (HBn.out _)⟩
      case measure => simp [intOf]; omega
    · go_wp2_with fail
      go_ret
      exact ⟨rfl, hB.out⟩

/-- places as a slice at q has them, in a block below N -/
def PlIn (w : World) (N : Nat) (ns : List Nat) (q : Option Addr) : Prop :=
  ns.length = 0 ∨ ∃ b o, q = some ⟨b, o, none⟩ ∧ b < N ∧ ∀ i (x : Nat), ns[i]? = some x → w.cell? ⟨b, o + i, none⟩ = some (.int .i64 x)
theorem PlIn.later {w w' : World} {N n : Nat} {ns : List Nat} {p : Option Addr} (h : PlIn w N ns p) (hN : N ≤ n) (hB : Below n w w') : PlIn w' N ns p := by
  rcases h with h | ⟨b, o, hp, hb, hc⟩
  · exact .inl h
  · exact .inr ⟨b, o, hp, hb, fun i t ht => (hB.cell (p := ⟨b, o + i, none⟩) (Nat.lt_of_lt_of_le hb hN)).trans (hc i t ht)⟩
theorem IntRow.reads {B : Nat} {w : World} {ns : List Nat} {v : Value} (h : IntRow B w ns v) : ∃ p c, v = .slice p ns.length c ∧ ns.length ≤ c ∧ PlIn w w.heap.size ns p := by
  obtain ⟨hl, ⟨rfl, h0⟩ | ⟨g, cap, cur, rfl, hg, hh, hn, hcap, hcs, ht⟩⟩ := h
  · exact ⟨none, 0, by rw [h0], by omega, .inl h0⟩
  · refine ⟨_, _, rfl, hn, .inr ⟨g, 0, rfl, lt_of_block hh, fun i x hx => ?_⟩⟩
    have hi : i < ns.length := (List.getElem?_eq_some_iff.1 hx).1
    have h1 : (ns.map fun a => Value.int .i64 (a : Nat))[i]? = some (.int .i64 x) := by rw [List.getElem?_map, hx]; rfl
    rw [← ht, List.getElem?_take_of_lt (by omega), Array.getElem?_toList] at h1
    rw [Nat.zero_add]
    simp [World.cell?, hh, h1]
/-- what stays while the law goes over the tokens -/
structure OFact (ts : List Tk) (ns : List Nat) (p q : Option Addr) (c d : Nat) (m : Int) (a5 N : Nat) (W : World) : Prop where
  wt : W.cell? ⟨a5, 0, none⟩ = some (.slice p ts.length c)
  pl : W.cell? ⟨a5 + 1, 0, none⟩ = some (.slice q ns.length d)
  mo : W.cell? ⟨a5 + 1 + 1, 0, none⟩ = some (.int .i64 m)
  rs : W.heap[a5 + 1 + 1 + 1]? = some (.cells #[.bool false] 4 (0, 0))
  tk : TksIn W N ts p
  ps : PlIn W N ns q
  gl : Glob W
  nN : a5 + 4 ≤ N ∧ 3 < N ∧ N ≤ W.heap.size
theorem OFact.later {ts : List Tk} {ns : List Nat} {p q : Option Addr} {c d : Nat} {m : Int} {a5 N : Nat} {W W' : World} (h : OFact ts ns p q c d m a5 N W) (hB : Below N W W') : OFact ts ns p q c d m a5 N W' :=
  have h1 := h.nN
  ⟨(hB.cell (p := ⟨a5, 0, none⟩) (by show a5 < N; omega)).trans h.wt, (hB.cell (p := ⟨a5 + 1, 0, none⟩) (by show a5 + 1 < N; omega)).trans h.pl, (hB.cell (p := ⟨a5 + 1 + 1, 0, none⟩) (by show a5 + 1 + 1 < N; omega)).trans h.mo,
    (hB.block (a5 + 1 + 1 + 1) (by omega)).trans h.rs, h.tk.later (Nat.le_refl _) hB, h.ps.later (Nat.le_refl _) hB, h.gl.later h.nN.2.1 hB, h.nN.1, h.nN.2.1, Nat.le_trans h.nN.2.2 hB.size⟩

set_option maxRecDepth 100000 in
set_option maxHeartbeats 6400000 in
theorem once_any (s : ByteArray) (xs : List (Nat × Tk)) (p q : Option Addr) (c d : Nat) (m : Int) (w : World) (hs : s.size ≤ 30000) (hxs : (lexAll s.data.toList).1 = xs) (hG : Glob w) (hp : TksIn w w.heap.size (xs.map (·.2)) p) (hq : PlIn w w.heap.size (xs.map (·.1)) q) (hl : xs.length ≤ 30000) :
    Calls Tryz.prog 14 #[.string s, .slice p xs.length c, .slice q xs.length d, .int .i64 m] w fun e w' => e = .returned (.bool true) ∧ Below w.heap.size w w' := by
  have h3 := hG.2.2.2
  obtain ⟨ts, hts⟩ : ∃ ts, xs.map (·.2) = ts := ⟨_, rfl⟩
  obtain ⟨ns, hns⟩ : ∃ ns, xs.map (·.1) = ns := ⟨_, rfl⟩
  have htl : ts.length = xs.length := by rw [← hts, List.length_map]
  have hnl : ns.length = xs.length := by rw [← hns, List.length_map]
  rw [hts] at hp
  rw [hns] at hq
  obtain ⟨w1, hw1⟩ : ∃ w1, ((((w.alloc (.cells #[.slice p xs.length c] 23)).alloc (.cells #[.slice q xs.length d] 29)).alloc (.cells #[.int .i64 m] 3)).alloc (.cells #[.bool false] 4)) = w1 := ⟨_, rfl⟩
  have hB1 : Below w.heap.size w w1 := by rw [← hw1]; exact ((((Below.refl _ w).alloc (Nat.le_refl _) _).alloc (by simp) _).alloc (by simp; omega) _).alloc (by simp; omega) _
  have hz1 : w1.heap.size = w.heap.size + 4 := by rw [← hw1]; simp
  have HM1 : Hid (OFact ts ns p q c d m w.heap.size (w.heap.size + 4) w1) := Lib.hid
    ⟨by rw [← hw1, htl]; simp [go_sem], by rw [← hw1, hnl]; simp [go_sem], by rw [← hw1]; simp [go_sem], by rw [← hw1]; have := heap_alloc_new (((w.alloc (.cells #[.slice p xs.length c] 23)).alloc (.cells #[.slice q xs.length d] 29)).alloc (.cells #[.int .i64 m] 3)) (.cells #[.bool false] 4); simpa using this,
      (hp.later (Nat.le_refl _) hB1).mono' (by omega), by
        rcases hq.later (Nat.le_refl _) hB1 with h | ⟨b, o, e1, e2, e3⟩
        · exact .inl h
        · exact .inr ⟨b, o, e1, by omega, e3⟩, hG.later h3 hB1, Nat.le_refl _, by omega, by omega⟩
  have HB1 := Lib.hid hB1
  have HXs := Lib.hid hxs
  have HXt := Lib.hid (And.intro hts (And.intro hns (And.intro htl hnl)))
  have HTk := Lib.hid (tokens_any s)
  clear hp hq hxs hts hns htl hnl hG hB1
  refine (callsIn_wide (n := 4)).1 ?_
  refine callsIn_of_wp_marks Tryz.func14 rfl trivial ?_ rfl
  simp only [Tryz.ntmps14, List.size_toArray, List.length_cons, List.length_nil, Nat.reduceAdd, Nat.reduceSub, Array.replicate_succ, Array.replicate_zero, List.push_toArray, List.append_toArray, List.nil_append, List.cons_append]
  have q0 : ∀ (q : Addr) (w : World), (binOp .eql 48 (.func (.func 49) #[] #[.pointer (some q)]) .nilFunc).run Tryz.prog w = .ok (.bool false) w := fun _ _ => by kernel_rfl
  gi_wp2_with fail
  obtain ⟨w2, hw2⟩ : ∃ w2, w1.alloc (.cells #[.int .i64 0] 3) = w2 := ⟨_, rfl⟩
  have hB2 : Below w1.heap.size w1 w2 := by rw [← hw2]; exact (Below.refl _ _).alloc (Nat.le_refl _) _
  have hn2 : w2.heap[w.heap.size + 4]? = some (.cells #[.int .i64 ((0 : Nat) : Int)] 3 (0, 0)) := by rw [← hw2, ← hz1]; exact heap_alloc_new w1 _
  rw [hw2]
  have HM2 := Lib.hid (HM1.out.later (hB2.mono (by omega)))
  have HB2 := Lib.hid (HB1.out.trans (hB2.mono (by omega)))
  have HZ := Lib.hid hz1
  clear hw1 hw2 hB2 HM1 HB1
  refine ⟨trivial, ?_⟩
  refine (callsIn_wide.2 (HTk.out _)).mono ?_
  rintro e w3 ⟨bt, rfl, hbt, hbz, hB3⟩
  have hn3 := (hB3.block _ (lt_of_block hn2)).trans hn2
  have hz3 : w.heap.size + 4 < w3.heap.size := lt_of_block hn3
  have HM3 := Lib.hid (HM2.out.later (hB3.mono HM2.out.nN.2.2))
  have HB3 := Lib.hid (HB2.out.trans (hB3.mono HB2.out.size))
  have HBt := Lib.hid hbt
  have HN3 := Lib.hid hn3
  clear hB3 hn2 hn3 hbt hbz HM2 HB2 hz1
  gi_wp2_with fail
  have HNQ := Lib.hid neq_tok
  have hs3 : s.size ≤ 65536 := by omega
  refine range_own (F := Fence.wide) rfl (by omega) (gf := 49) (lb := #[.pointer (some ⟨bt, 0, none⟩)]) rfl trivial (enters_of Tryz.func49 (by kernel_rfl) rfl)
    (tokens1_own s bt (4 - 1) w3 hs3 HBt.out) (Below.refl _ w3) (fun _ => rfl)
    (fun k W => OFact ts ns p q c d m w.heap.size (w.heap.size + 4) W ∧ W.heap[w.heap.size + 4]? = some (.cells #[.int .i64 k] 3 (0, 0)) ∧ Below w.heap.size w W)
    (fun cd _ W => cd = .ret ∧ W.heap[w.heap.size + 1 + 1 + 1]? = some (.cells #[.bool true] 4 (0, 0)) ∧ Below w.heap.size w W) (fun k A h => h.1.gl)
    (fun k A B h hAB => ⟨h.1.later (hAB.mono (by omega)), (hAB.block _ hz3).trans h.2.1, h.2.2.trans (hAB.mono (by omega))⟩)
    (fun _ _ _ _ h hAB => ⟨h.1, (hAB.block _ (by omega)).trans h.2.1, h.2.2.trans (hAB.mono (by omega))⟩) ⟨HM3.out, HN3.out, HB3.out⟩
    (fun x b W => w3.heap.size + 1 < b ∧ TokAt W x.2 b 0) (fun x b A B h hAB => ⟨h.1, h.2.but (Nat.ne_of_gt h.1) hAB⟩) ?_ ?_ ?_ ?_ ?_
  rotate_left
  · intro l k x W K hx hi hW hK
    simp only [encT]
    rw [fold2]
    simp only [List.setIfInBounds_toArray, List.set_cons_succ, List.set_cons_zero]
    gi_wp2_with fail
    generalize hb : W.heap.size = b
    exact hK b _ ((Below.refl _ W).alloc (Nat.le_refl _) _) ⟨by omega, by subst hb; exact TokAt.new W x.2⟩
  · intro l k x b W hx hi hA hW
    obtain ⟨a, t⟩ := x
    rw [HXs.out] at hx
    obtain ⟨hM, hn, hBw⟩ := hi
    have hkx := (List.getElem?_eq_some_iff.1 hx).1
    have htk : ts[k]? = some t := by rw [← HXt.out.1, List.getElem?_map, hx]; rfl
    have hnk : ns[k]? = some a := by rw [← HXt.out.2.1, List.getElem?_map, hx]; rfl
    have cn := cell_of_one hn
    have zn := free_of_one hn
    have d0 : W.cell? ⟨b, 0, none⟩ = some (.int .i64 t.kind) := hA.2.c0
    have d1 : W.cell? ⟨b, 1, none⟩ = some (.string (str t.text)) := hA.2.c1
    have d2 : W.cell? ⟨b, 2, none⟩ = some (.int .u64 t.word) := hA.2.c2
    have d3 : W.cell? ⟨b, 3, none⟩ = some (.int .i64 t.line) := hA.2.c3
    have d4 : W.cell? ⟨b, 4, none⟩ = some (.int .i64 t.col) := hA.2.c4
    have nq := HNQ.out t.kind t.word t.line t.col (str t.text)
    have wt := hM.wt
    have pl := hM.pl
    have mo := hM.mo
    have rs := cell_of_one hM.rs
    have rz := free_of_one hM.rs
    rw [HXt.out.2.2.1] at wt
    rw [HXt.out.2.2.2] at pl
    obtain ⟨pb, po, rfl, _, hc⟩ : ∃ b o, p = some ⟨b, o, none⟩ ∧ b < w.heap.size + 4 ∧ ∀ i t, ts[i]? = some t → TokAt W t b (o + i * 5) := by
      rcases hM.tk with h0 | h0
      · have := HXt.out.2.2.1; omega
      · exact h0
    obtain ⟨qb, qo, rfl, _, hqc⟩ : ∃ b o, q = some ⟨b, o, none⟩ ∧ b < w.heap.size + 4 ∧ ∀ i (x : Nat), ns[i]? = some x → W.cell? ⟨b, o + i, none⟩ = some (.int .i64 x) := by
      rcases hM.ps with h0 | h0
      · have := HXt.out.2.2.2; omega
      · exact h0
    obtain ⟨f0, f1, f2, f3, f4⟩ := hc k t htk
    have g0 := hqc k a hnk
    have i0 : (0 : Int) ≤ (k : Int) := by omega
    have i1 : (k : Int) < (xs.length : Int) := by omega
    have n0 : (xs.length ≤ k) = False := eq_false (by omega)
    have n0i : ((xs.length : Int) ≤ (k : Int)) = False := eq_false (by omega)
    have HI := Lib.hid (And.intro hM (And.intro hn hBw))
    clear hx hA hM hn hBw hkx htk hnk hc hqc
    have hk1 : IntKind.i64.wrap ((k : Int) + 1) = (k : Int) + 1 := by simp [IntKind.wrap, IntKind.bits, IntKind.signed]; omega
    have HF : Hid (∀ n, Up w3.heap.size W ((W.drewN n).setCell ⟨w.heap.size + 4, 0, none⟩ (.int .i64 ((k : Int) + 1))) ∧ (OFact ts ns (some ⟨pb, po, none⟩) (some ⟨qb, qo, none⟩) c d m w.heap.size (w.heap.size + 4) ((W.drewN n).setCell ⟨w.heap.size + 4, 0, none⟩ (.int .i64 ((k : Int) + 1))) ∧
        ((W.drewN n).setCell ⟨w.heap.size + 4, 0, none⟩ (.int .i64 ((k : Int) + 1))).heap[w.heap.size + 4]? = some (.cells #[.int .i64 ((k + 1 : Nat) : Int)] 3 (0, 0)) ∧ Below w.heap.size w ((W.drewN n).setCell ⟨w.heap.size + 4, 0, none⟩ (.int .i64 ((k : Int) + 1))))) := Lib.hid (fun n => by
      obtain ⟨hM, hn, hBw⟩ := HI.out
      have hD : ∀ m, Below m W (W.drewN n) := fun m => below_drewN' (Below.refl m W) n
      have hB : Below (w.heap.size + 4) W ((W.drewN n).setCell ⟨w.heap.size + 4, 0, none⟩ (.int .i64 ((k : Int) + 1))) := (hD _).setCell (p := ⟨w.heap.size + 4, 0, none⟩) (Nat.le_refl _) _
      have hn' : (W.drewN n).heap[w.heap.size + 4]? = some (.cells #[.int .i64 k] 3 (0, 0)) := ((hD (w.heap.size + 5)).block _ (by omega)).trans hn
      exact ⟨((Up.refl w3.heap.size W).below (hD _)).setCell (p := ⟨w.heap.size + 4, 0, none⟩) hz3 _, hM.later hB, one_setCell hn', hBw.trans (hB.mono (by omega))⟩)
    by_cases hm : (k : Int) + 1 = m
    · have em : ((k : Int) + 1 == m) = true := by rw [hm]; simp
      clear hm
      gi_wp2_with fail
      refine region_quiet (by kernel_rfl) (by kernel_rfl) (by kernel_rfl) ?_
      repeat (gi_big_quiet_step (fail))
      refine wpQuietIn_nil ?_
      rintro _ ⟨nd, rfl⟩
      gi_wp2_with fail
      have hr2 := HI.out.1.rs
      refine ⟨(HF.out nd).1.setCell (p := ⟨w.heap.size + 1 + 1 + 1, 0, none⟩) (by show w.heap.size + 1 + 1 + 1 < w3.heap.size; omega) _, rfl, one_setCell (HF.out nd).2.1.rs, (HF.out nd).2.2.2.setCell (p := ⟨w.heap.size + 1 + 1 + 1, 0, none⟩) (by show w.heap.size ≤ w.heap.size + 1 + 1 + 1; omega) _⟩
    · have em : ((k : Int) + 1 == m) = false := by simp; exact hm
      clear hm
      gi_wp2_with fail
      refine region_quiet (by kernel_rfl) (by kernel_rfl) (by kernel_rfl) ?_
      repeat (gi_big_quiet_step (fail))
      refine wpQuietIn_nil ?_
      rintro _ ⟨nd, rfl⟩
      gi_wp2_with fail
      exact HF.out nd
  · rintro D W hD ⟨hM, hn, hBw⟩ hDh
    rw [HXs.out] at hn
    have cn := cell_of_one hn
    have wt := hM.wt
    have rs := cell_of_one hM.rs
    have rz := free_of_one hM.rs
    rw [HXt.out.2.2.1] at wt
    have e0 : ((xs.length : Int) == (xs.length : Int)) = true := by simp
    have HDh := Lib.hid hDh
    have HBW := Lib.hid hBw
    have HRs := Lib.hid hM.rs
    clear hM hn hBw hDh
    gi_wp2_with fail
    have hr2 := one_setCell (u := .bool true) HRs.out
    have hK' : (W.setCell ⟨w.heap.size + 1 + 1 + 1, 0, none⟩ (.bool true)).heap[D]? = some (.deferred (some [])) := (Below.heap_setCell W _ _ D (by show D ≠ w.heap.size + 1 + 1 + 1; omega)).trans HDh.out
    have hc2 : ((W.setCell ⟨w.heap.size + 1 + 1 + 1, 0, none⟩ (.bool true)).putObj D (.deferred none)).cell? ⟨w.heap.size + 1 + 1 + 1, 0, none⟩ = some (.bool true) := (World.cell?_of_block (World.putObj_heap_other (by show w.heap.size + 1 + 1 + 1 ≠ D; omega))).trans (cell_of_one hr2)
    refine ⟨by simp, .inl ⟨_, _, rfl, run_takeDeferred hK', ?_⟩⟩
    refine ⟨.bool true, ?_, rfl, (HBW.out.setCell (p := ⟨w.heap.size + 1 + 1 + 1, 0, none⟩) (by show w.heap.size ≤ w.heap.size + 1 + 1 + 1; omega) _).trans (below_put _ (by omega))⟩
    simp [results, Tryz.results14, go_sem, hc2]
  · intro D cd k W hD hk ⟨hc, hr, hBw⟩ hDh
    subst hc
    have HDh := Lib.hid hDh
    have HBW := Lib.hid hBw
    have HRs := Lib.hid hr
    clear hDh hBw hr
    gi_wp2_with fail
    have hc2 : (W.putObj D (.deferred none)).cell? ⟨w.heap.size + 1 + 1 + 1, 0, none⟩ = some (.bool true) := (World.cell?_of_block (World.putObj_heap_other (by show w.heap.size + 1 + 1 + 1 ≠ D; omega))).trans (cell_of_one HRs.out)
    refine ⟨by simp, .inl ⟨_, _, rfl, run_takeDeferred HDh.out, ?_⟩⟩
    refine ⟨.bool true, ?_, rfl, HBW.out.trans (below_put _ (by omega))⟩
    simp [results, Tryz.results14, go_sem, hc2]
end Go.Proofs.YtgffiggnmklcoaaGreatDoor
