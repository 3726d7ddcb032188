/- The theorem of the stage: its walk. -/
import Derived.Test.YtgffiggnmklcoaaGreatDoorH4
import Derived.Test.YtgffiggnmklcoaaGreatDoorS2
import Derived.Test.YtgffiggnmklcoaaGreatDoorM3
import Derived.Test.YtgffiggnmklcoaaGreatDoorZ2
import Derived.Deep.QuietTactic
import Derived.BigQuiet
import Derived.IntWalk
import Derived.Outline
import Derived.Shelf.RegionOpen
import Derived.Test.YtgffiggnmklcoaaGreatDoorY3
import Derived.RangeFuncCalls
import Derived.Sort.BigQuietIn
import Derived.Test.YtgffiggnmklcoaaGreatDoorLS
namespace Go.Proofs.YtgffiggnmklcoaaGreatDoor
open Go.RowKit
attribute [local go_sem] Oper.semAt_some

theorem gaps_plain {l : List UInt8} {e : Nat} {ts : List (Nat × Tk)} (h : Gaps l e ts) (hp : ∀ x ∈ ts, 0 < x.2.text.length) : (plainL (ts.map (·.2))).length ≤ 2 * (l.length - e) := by
  induction ts generalizing e with
  | nil => exact Nat.zero_le _
  | cons x r ih =>
    obtain ⟨h1, h2, _, _, h5⟩ := h
    have hx := hp x (by simp)
    have hr := ih h5 (fun y hy => hp y (by simp [hy]))
    cases r with
    | nil => rw [List.map_cons, List.map_nil, plain_one]; omega
    | cons y q =>
      rw [List.map_cons, List.map_cons] at *
      rw [plain_cons, List.length_append, List.length_cons]
      omega

set_option maxRecDepth 100000 in
set_option maxHeartbeats 1600000 in
theorem means_long (s : ByteArray) (w : World) (hG : Glob w) (hl : 30000 < s.size) : Calls Tryz.prog 7 #[.string s] w fun e w' => e = .returned (.bool true) ∧ Below w.heap.size w w' := by
  have h3 := hG.2.2.2
  have HB0 := Lib.hid (((Below.refl _ w).alloc (Nat.le_refl _) (.cells #[.string s] 9 (0, 0))).alloc (by simp) (.cells #[.bool false] 4 (0, 0)))
  have HK := Lib.hid (known_any _ (hG.later h3 HB0.out))
  go_enter Tryz.func7, Tryz.ntmps7
  go_wp2_with fail
  refine HK.out.mono ?_
  rintro e w1 ⟨rfl, hB1⟩
  have c0 : w1.cell? ⟨w.heap.size, 0, none⟩ = some (.string s) := (hB1.cell (p := ⟨w.heap.size, 0, none⟩) (by simp; omega)).trans (by simp [go_sem])
  have c1 : w1.cell? ⟨w.heap.size + 1, 0, none⟩ = some (.bool false) := (hB1.cell (p := ⟨w.heap.size + 1, 0, none⟩) (by simp)).trans (by simp [go_sem])
  have z1 : w1.frozen? ⟨w.heap.size + 1, 0, none⟩ = false := (hB1.frozen (p := ⟨w.heap.size + 1, 0, none⟩) (by simp)).trans (by simp [go_sem])
  have HB1 := Lib.hid (HB0.out.trans (hB1.mono HB0.out.size))
  clear hB1
  go_wp2_with fail
  refine bodyPost_ret (v := .bool true) ?_ rfl ⟨rfl, HB1.out.setCell (by simp) _⟩
  have hc := World.cell?_setCell_same w1 ⟨w.heap.size + 1, 0, none⟩ (.bool true) c1
  simp [results, Tryz.results7, go_sem, hc]

set_option maxRecDepth 100000 in
set_option maxHeartbeats 1600000 in
theorem means_wrong (s : ByteArray) (w : World) (hG : Glob w) (hl : s.size ≤ 30000) (hE : (allF s.data.toList).1 ≠ 0) : Calls Tryz.prog 7 #[.string s] w fun e w' => e = .returned (.bool true) ∧ Below w.heap.size w w' := by
  have h3 := hG.2.2.2
  have HG := Lib.hid hG
  have HA := Lib.hid (fun w' h => all_any s w' (by omega) h)
  have HB0 := Lib.hid (((Below.refl _ w).alloc (Nat.le_refl _) (.cells #[.string s] 9 (0, 0))).alloc (by simp) (.cells #[.bool false] 4 (0, 0)))
  have HK := Lib.hid (known_any _ (hG.later h3 HB0.out))
  have HT := Lib.hid (all_wrong hE)
  have e0 : (((allF s.data.toList).1 : Int) != 0) = true := by simp; omega
  clear hE hG
  go_enter Tryz.func7, Tryz.ntmps7
  go_wp2_with fail
  refine HK.out.mono ?_
  rintro e w1 ⟨rfl, hB1⟩
  have c0 : w1.cell? ⟨w.heap.size, 0, none⟩ = some (.string s) := (hB1.cell (p := ⟨w.heap.size, 0, none⟩) (by simp; omega)).trans (by simp [go_sem])
  have c1 : w1.cell? ⟨w.heap.size + 1, 0, none⟩ = some (.bool false) := (hB1.cell (p := ⟨w.heap.size + 1, 0, none⟩) (by simp)).trans (by simp [go_sem])
  have z1 : w1.frozen? ⟨w.heap.size + 1, 0, none⟩ = false := (hB1.frozen (p := ⟨w.heap.size + 1, 0, none⟩) (by simp)).trans (by simp [go_sem])
  have hz1 : w.heap.size + 1 < w1.heap.size := World.block_lt_of_cell? w1 _ c1
  have HB1 := Lib.hid (HB0.out.trans (hB1.mono HB0.out.size))
  clear hB1
  go_wp2_with fail
  refine (HA.out _ (HG.out.later h3 HB1.out)).mono ?_
  rintro e w2 ⟨⟨v, rfl, hR⟩, hB2⟩
  rw [HT.out] at hR
  obtain ⟨p, cap, rfl, _⟩ := hR.reads
  have d1 := (hB2.cell (p := ⟨w.heap.size + 1, 0, none⟩) hz1).trans c1
  have y1 := (hB2.frozen (p := ⟨w.heap.size + 1, 0, none⟩) hz1).trans z1
  have hz2 : w.heap.size + 1 < w2.heap.size := World.block_lt_of_cell? w2 _ d1
  have HB2 := Lib.hid (HB1.out.trans (hB2.mono HB1.out.size))
  have hBx : Below w2.heap.size w2 ((w2.alloc (.cells #[.slice p 0 cap] 23 (0, 0))).alloc (.cells #[.int .i64 ((allF s.data.toList).1 : Int), .int .i64 ((allF s.data.toList).2.1 : Int), .int .i64 ((allF s.data.toList).2.2 : Int)] 26)) := ((Below.refl _ w2).alloc (Nat.le_refl _) _).alloc (by simp) _
  have f1 := (hBx.cell (p := ⟨w.heap.size + 1, 0, none⟩) hz2).trans d1
  have x1 := (hBx.frozen (p := ⟨w.heap.size + 1, 0, none⟩) hz2).trans y1
  have HB3 := Lib.hid (HB2.out.trans (hBx.mono HB2.out.size))
  clear hB2 hR c0 c1 z1 hBx
  go_wp2_with fail
  refine bodyPost_ret (v := .bool true) ?_ rfl ⟨rfl, HB3.out.setCell (by simp) _⟩
  have hc := World.cell?_setCell_same _ ⟨w.heap.size + 1, 0, none⟩ (.bool true) f1
  simp [results, Tryz.results7, go_sem, hc]

/-- what stays throughout the law -/
structure MFact (s : ByteArray) (ts : List Tk) (p : Option Addr) (cap a0 a1 a3 N : Nat) (W : World) : Prop where
  tx : W.cell? ⟨a0, 0, none⟩ = some (.string s)
  rs : W.cell? ⟨a1, 0, none⟩ = some (.bool false)
  rz : W.frozen? ⟨a1, 0, none⟩ = false
  sl : W.cell? ⟨a3, 0, none⟩ = some (.slice p ts.length cap)
  tk : TksIn W N ts p
  gl : Glob W
  nN : a0 < N ∧ a1 < N ∧ a3 < N ∧ 3 < N ∧ N ≤ W.heap.size
theorem MFact.later {s : ByteArray} {ts : List Tk} {p : Option Addr} {cap a0 a1 a3 N : Nat} {W W' : World} (h : MFact s ts p cap a0 a1 a3 N W) (hB : Below N W W') : MFact s ts p cap a0 a1 a3 N W' :=
  ⟨(hB.cell (p := ⟨a0, 0, none⟩) h.nN.1).trans h.tx, (hB.cell (p := ⟨a1, 0, none⟩) h.nN.2.1).trans h.rs, (hB.frozen (p := ⟨a1, 0, none⟩) h.nN.2.1).trans h.rz, (hB.cell (p := ⟨a3, 0, none⟩) h.nN.2.2.1).trans h.sl,
    h.tk.later (Nat.le_refl _) hB, h.gl.later h.nN.2.2.2.1 hB, h.nN.1, h.nN.2.1, h.nN.2.2.1, h.nN.2.2.2.1, Nat.le_trans h.nN.2.2.2.2 hB.size⟩
theorem TksIn.mono' {w : World} {N M : Nat} {ts : List Tk} {p : Option Addr} (h : TksIn w N ts p) (hM : N ≤ M) : TksIn w M ts p := by
  rcases h with h | ⟨b, o, hp, hb, hc⟩
  · exact .inl h
  · exact .inr ⟨b, o, hp, Nat.lt_of_lt_of_le hb hM, hc⟩
theorem TokAt.but {w w' : World} {t : Tk} {b o g : Nat} (h : TokAt w t b o) (hb : b ≠ g) (hB : But g w w') : TokAt w' t b o :=
  have hl : b < w.heap.size := World.block_lt_of_cell? w _ h.c0
  ⟨(hB.cell (p := ⟨b, o, none⟩) hl hb).trans h.c0, (hB.cell (p := ⟨b, o + 1, none⟩) hl hb).trans h.c1, (hB.cell (p := ⟨b, o + 2, none⟩) hl hb).trans h.c2, (hB.cell (p := ⟨b, o + 3, none⟩) hl hb).trans h.c3, (hB.cell (p := ⟨b, o + 4, none⟩) hl hb).trans h.c4⟩
theorem TokAt.new (W : World) (t : Tk) : TokAt (W.alloc (.cells #[.int .i64 t.kind, .string (str t.text), .int .u64 t.word, .int .i64 t.line, .int .i64 t.col] 52)) t W.heap.size 0 :=
  ⟨by simp [go_sem], by simp [go_sem], by simp [go_sem], by simp [go_sem], by simp [go_sem]⟩
theorem fold2 (A : Array Value) (i j : Tmp) (u v : Value) : (#[i, j].zip #[u, v]).foldl (fun t (p, v) => t.setIfInBounds p v) A = (A.setIfInBounds i u).setIfInBounds j v := by
  simp
theorem gaps_end_le {l : List UInt8} {ts : List (Nat × Tk)} (h : Gaps l 0 ts) : endAt ts ts.length ≤ l.length := by
  cases hk : ts.length with
  | zero => exact Nat.zero_le _
  | succ k =>
    have hx : ts[k]? = some (ts[k]'(by omega)) := List.getElem?_eq_getElem _
    obtain ⟨_, h2, _, _, h5⟩ := gaps_step h hx
    rw [h5]; exact h2
theorem ext_list (s : ByteArray) (a b : Nat) : (s.extract a b).data.toList = (s.data.toList.drop a).take (b - a) := by
  rw [ByteArray.data_extract, Array.toList_extract, List.extract]
theorem neq_tok (k u l c : Int) (x : ByteArray) (w : World) : (binOp .neq 52 (.agg #[.int .i64 k, .string x, .int .u64 u, .int .i64 l, .int .i64 c]) (.agg #[.int .i64 k, .string x, .int .u64 u, .int .i64 l, .int .i64 c])).run Tryz.prog w = .ok (.bool false) w := by
  simp [go_sem]

set_option maxRecDepth 100000 in
set_option maxHeartbeats 6400000 in
theorem means_good (s : ByteArray) (w : World) (hG : Glob w) (hl : s.size ≤ 30000) (hE : (allF s.data.toList).1 = 0) : Calls Tryz.prog 7 #[.string s] w fun e w' => e = .returned (.bool true) ∧ Below w.heap.size w w' := by
  have h3 := hG.2.2.2
  have HG := Lib.hid hG
  have HA := Lib.hid (fun w' h => all_any s w' (by omega) h)
  have HB0 := Lib.hid (((Below.refl _ w).alloc (Nat.le_refl _) (.cells #[.string s] 9 (0, 0))).alloc (by simp) (.cells #[.bool false] 4 (0, 0)))
  have HK := Lib.hid (known_any _ (hG.later h3 HB0.out))
  obtain ⟨_, hlx, hTT, hF0, hok⟩ := all_zero hE
  obtain ⟨xs, hxs⟩ : ∃ xs, (lexAll s.data.toList).1 = xs := ⟨_, rfl⟩
  have hlex : lexAll s.data.toList = (xs, none) := by rw [← hxs, ← hlx]
  have hgaps := lexAll_gaps hlex
  rw [hTT, hxs] at hok
  rw [hxs] at hTT
  have hpos : ∀ x ∈ xs, 0 < x.2.text.length := fun x hx => List.length_pos_iff.2 (hok x.2 (List.mem_map_of_mem hx)).1.1
  have hpl := gaps_plain hgaps hpos
  have hsl := size_len s
  obtain ⟨hc1, _⟩ := allT_count s.data.toList
  rw [hTT, ← hsl] at hc1
  rw [← hsl] at hpl
  have hps := plain_same hok (by omega)
  obtain ⟨ts, hts⟩ : ∃ ts, xs.map (·.2) = ts := ⟨_, rfl⟩
  rw [hts] at hpl hps hTT hc1 hok
  have htl : ts.length = xs.length := by rw [← hts, List.length_map]
  have HGp := Lib.hid hgaps
  have HTs := Lib.hid hTT
  have HF0 := Lib.hid hF0
  have HPS := Lib.hid hps
  have HXs := Lib.hid hxs
  have HXt := Lib.hid (And.intro hts htl)
  have hcl : ts.length ≤ 30000 := by omega
  have hpz : (str (plainL ts)).size ≤ 60000 := by rw [size_len, str_data]; omega
  have HPl := Lib.hid (show (plainL ts).length ≤ 140737488355328 by omega)
  clear hE hG hlx hTT hF0 hok hxs hlex hgaps hpos hpl hc1 hps hts htl hsl
  refine (callsIn_wide (n := 4)).1 ?_
  refine callsIn_of_wp_marks Tryz.func7 rfl trivial ?_ rfl
  simp only [Tryz.ntmps7, List.size_toArray, List.length_cons, List.length_nil, Nat.reduceAdd, Nat.reduceSub, Array.replicate_succ, Array.replicate_zero, List.push_toArray, List.append_toArray, List.nil_append, List.cons_append]
  gi_wp2_with fail
  refine ⟨trivial, ?_⟩
  refine (callsIn_wide.2 HK.out).mono ?_
  rintro e w1 ⟨rfl, hB1⟩
  have c0 : w1.cell? ⟨w.heap.size, 0, none⟩ = some (.string s) := (hB1.cell (p := ⟨w.heap.size, 0, none⟩) (by simp; omega)).trans (by simp [go_sem])
  have c1 : w1.cell? ⟨w.heap.size + 1, 0, none⟩ = some (.bool false) := (hB1.cell (p := ⟨w.heap.size + 1, 0, none⟩) (by simp)).trans (by simp [go_sem])
  have z1 : w1.frozen? ⟨w.heap.size + 1, 0, none⟩ = false := (hB1.frozen (p := ⟨w.heap.size + 1, 0, none⟩) (by simp)).trans (by simp [go_sem])
  have hz1 : w.heap.size + 1 < w1.heap.size := World.block_lt_of_cell? w1 _ c1
  have HB1 := Lib.hid (HB0.out.trans (hB1.mono HB0.out.size))
  clear hB1
  gi_wp2_with fail
  refine ⟨trivial, ?_⟩
  refine (callsIn_wide.2 (HA.out _ (HG.out.later h3 HB1.out))).mono ?_
  rintro e w2 ⟨⟨v, rfl, hR⟩, hB2⟩
  rw [HTs.out] at hR
  rw [HF0.out]
  obtain ⟨p, cap, rfl, r1, r2, r3, r4⟩ := hR.reads
  have HB2 := Lib.hid (HB1.out.trans (hB2.mono HB1.out.size))
  obtain ⟨w3, hw3⟩ : ∃ w3, ((w2.alloc (.cells #[.slice p ts.length cap] 23 (0, 0))).alloc (.cells #[.int .i64 0, .int .i64 0, .int .i64 0] 26)) = w3 := ⟨_, rfl⟩
  have hBx : Below w2.heap.size w2 w3 := by rw [← hw3]; exact ((Below.refl _ w2).alloc (Nat.le_refl _) _).alloc (by simp) _
  have hz2 : w.heap.size + 1 < w2.heap.size := Nat.lt_of_lt_of_le hz1 hB2.size
  have k3 : w3.cell? ⟨w2.heap.size, 0, none⟩ = some (.slice p ts.length cap) := by rw [← hw3]; simp [go_sem]
  have k4 : w3.cell? ⟨w2.heap.size + 1, 0, none⟩ = some (.int .i64 0) := by rw [← hw3]; simp [go_sem]
  have hz3 : w3.heap.size = w2.heap.size + 2 := by rw [← hw3]; simp
  have HB3 := Lib.hid (HB2.out.trans (hBx.mono HB2.out.size))
  have HM : Hid (MFact s ts p cap w.heap.size (w.heap.size + 1) w2.heap.size (w2.heap.size + 1) w3) := Lib.hid
    ⟨(hBx.cell (p := ⟨w.heap.size, 0, none⟩) (by show w.heap.size < _; omega)).trans ((hB2.cell (p := ⟨w.heap.size, 0, none⟩) (by show w.heap.size < _; omega)).trans c0),
     (hBx.cell (p := ⟨w.heap.size + 1, 0, none⟩) hz2).trans ((hB2.cell (p := ⟨w.heap.size + 1, 0, none⟩) hz1).trans c1),
     (hBx.frozen (p := ⟨w.heap.size + 1, 0, none⟩) hz2).trans ((hB2.frozen (p := ⟨w.heap.size + 1, 0, none⟩) hz1).trans z1), k3,
     (r4.later (Nat.le_refl _) hBx).mono' (Nat.le_succ _), HG.out.later h3 HB3.out, by omega, by omega, by omega, by omega, by omega⟩
  have HR2 := Lib.hid (And.intro r1 r2)
  have HW3 := Lib.hid hw3
  have hz3' := Lib.hid hz3
  clear hw3 hB2 hR c0 c1 z1 hBx r3 r4 hz1 k3 k4 hz3
  gi_wp2_with fail
  rw [HW3.out]
  clear HW3
  obtain ⟨tx, rs, rz, sl, tk, gl, nN⟩ := HM.out
  refine ⟨trivial, ?_⟩
  refine (callsIn_wide.2 (plain_any ts p cap (w2.heap.size + 1) w3 tk nN.2.2.2.2 HR2.out.1 HR2.out.2 (by omega) HPl.out)).mono ?_
  rintro e w4 ⟨rfl, hB4⟩
  have HM4 := Lib.hid (HM.out.later (hB4.mono nN.2.2.2.2))
  have HB4 := Lib.hid (HB3.out.trans (hB4.mono HB3.out.size))
  clear hB4 tx rs rz sl tk gl nN HM
  gi_wp2_with fail
  refine ⟨trivial, ?_⟩
  refine (callsIn_wide.2 (all_any (str (plainL ts)) w4 (by omega) HM4.out.gl)).mono ?_
  rintro e w5 ⟨⟨v, rfl, hR⟩, hB5⟩
  rw [str_data] at hR ⊢
  rw [HPS.out.1]
  obtain ⟨ms, hms⟩ : ∃ ms, allT (plainL ts) = ms := ⟨_, rfl⟩
  have hPS2 := HPS.out.2
  rw [hms] at hR hPS2
  obtain ⟨p2, cap2, rfl, q1, q2, q3, q4⟩ := hR.reads
  have HM5 := Lib.hid (HM4.out.later (hB5.mono HM4.out.nN.2.2.2.2))
  have HB5 := Lib.hid (HB4.out.trans (hB5.mono HB4.out.size))
  have hb5 : Below w5.heap.size w5 (w5.alloc (.cells #[.int .i64 0, .int .i64 0, .int .i64 0] 26)) := (Below.refl _ w5).alloc (Nat.le_refl _) _
  have HE5 := Lib.hid (HM5.out.later (hb5.mono HM5.out.nN.2.2.2.2))
  have HBE := Lib.hid (HB5.out.trans (hb5.mono HB5.out.size))
  have HSm := Lib.hid (same_any (ts.map Tk.z) (ms.map Tk.z) p p2 cap cap2 (w5.heap.size + 1) _ (HE5.out.tk.mono' (M := w5.heap.size + 1) (by have := HE5.out.nN.2.2.2.2; simpa using this)).z ((q4.later (Nat.le_refl _) hb5).mono' (Nat.le_succ _)).z (by simp) (by rw [List.length_map]; exact HR2.out.1) HR2.out.2 (by rw [List.length_map]; exact q1) q2)
  rw [hPS2, List.length_map, List.length_map] at HSm
  clear hPS2 hms hR q1 q2 q3 q4 hB5 hb5 HM4 HPS
  have sl := HE5.out.sl
  gi_wp2_with fail
  refine ⟨trivial, ?_⟩
  refine (callsIn_wide.2 HSm.out).mono ?_
  rintro e w6 ⟨rfl, hB6⟩
  have HM6 := Lib.hid (HE5.out.later (hB6.mono HE5.out.nN.2.2.2.2))
  have HB6 := Lib.hid (HBE.out.trans (hB6.mono HBE.out.size))
  clear sl hB6 HSm HE5 HBE HM5
  obtain ⟨w7, hw7⟩ : ∃ w7, (w6.alloc (.cells #[.int .i64 0] 3 (0, 0))).alloc (.cells #[.int .i64 0] 3 (0, 0)) = w7 := ⟨_, rfl⟩
  have hb7 : Below w6.heap.size w6 w7 := by rw [← hw7]; exact ((Below.refl _ w6).alloc (Nat.le_refl _) _).alloc (by simp) _
  have kn : w7.heap[w6.heap.size]? = some (.cells #[.int .i64 0] 3 (0, 0)) := by
    rw [← hw7, Below.heap_alloc _ _ _ (by simp)]; exact heap_alloc_new w6 _
  have ke : w7.heap[w6.heap.size + 1]? = some (.cells #[.int .i64 0] 3 (0, 0)) := by
    rw [← hw7]; have := heap_alloc_new (w6.alloc (.cells #[.int .i64 0] 3 (0, 0))) (.cells #[.int .i64 0] 3 (0, 0)); simpa using this
  have hz7 : w7.heap.size = w6.heap.size + 2 := by rw [← hw7]; simp
  have HM7 := Lib.hid (HM6.out.later (hb7.mono HM6.out.nN.2.2.2.2))
  have HB7 := Lib.hid (HB6.out.trans (hb7.mono HB6.out.size))
  have HT7 := Lib.hid (show ((w6.alloc (.cells #[.int .i64 0] 3 (0, 0))).alloc (.cells #[.int .i64 0] 3 (0, 0))).cell? ⟨w.heap.size, 0, none⟩ = some (.string s) by rw [hw7]; exact HM7.out.tx)
  have HC7 := Lib.hid (And.intro kn (And.intro ke hz7))
  have HW7 := Lib.hid hw7
  clear hw7 hb7 kn ke hz7
  have tx := HT7.out
  have q0 : ∀ (q : Addr) (w : World), (binOp .eql 48 (.func (.func 49) #[] #[.pointer (some q)]) .nilFunc).run Tryz.prog w = .ok (.bool false) w := fun _ _ => by kernel_rfl
  gi_wp2_with fail
  clear tx HT7
  rw [HW7.out]
  clear HW7
  refine ⟨trivial, ?_⟩
  refine (callsIn_wide.2 (tokens_any s w7)).mono ?_
  rintro e w8 ⟨bt, rfl, hbt, hbz, hB8⟩
  have HM8 := Lib.hid (HM7.out.later (hB8.mono HM7.out.nN.2.2.2.2))
  have HB8 := Lib.hid (HB7.out.trans (hB8.mono HB7.out.size))
  have HC8 := Lib.hid (show w8.heap[w6.heap.size]? = some (.cells #[.int .i64 0] 3 (0, 0)) ∧ w8.heap[w6.heap.size + 1]? = some (.cells #[.int .i64 0] 3 (0, 0)) ∧ w6.heap.size + 1 < w8.heap.size from
    ⟨(hB8.block _ (by have := HC7.out.2.2; omega)).trans HC7.out.1, (hB8.block _ (by have := HC7.out.2.2; omega)).trans HC7.out.2.1, by have := HC7.out.2.2; have := hB8.size; omega⟩)
  have HBt := Lib.hid hbt
  have HN6 := Lib.hid HM6.out.nN.2.2.2.2
  clear hB8 hbt HC7 hbz HM7 HB7 HM6
  gi_wp2_with fail
  have HNQ := Lib.hid (neq_tok)
  have hs3 : s.size ≤ 65536 := by omega
  refine range_own (F := Fence.wide) rfl (by omega) (gf := 49) (lb := #[.pointer (some ⟨bt, 0, none⟩)]) rfl trivial (enters_of Tryz.func49 (by kernel_rfl) rfl)
    (tokens1_own s bt (4 - 1) w8 hs3 HBt.out) (Below.refl _ w8) (fun _ => rfl)
    (fun k W => MFact s ts p cap w.heap.size (w.heap.size + 1) w2.heap.size (w2.heap.size + 1) W ∧ W.heap[w6.heap.size]? = some (.cells #[.int .i64 k] 3 (0, 0)) ∧ W.heap[w6.heap.size + 1]? = some (.cells #[.int .i64 (endAt xs k)] 3 (0, 0)) ∧ Below w.heap.size w W)
    (fun _ _ _ => False) (fun k A h => h.1.gl)
    (fun k A B h hAB => ⟨h.1.later (hAB.mono HM8.out.nN.2.2.2.2), (hAB.block _ (by have := HC8.out.2.2; omega)).trans h.2.1, (hAB.block _ HC8.out.2.2).trans h.2.2.1, h.2.2.2.trans (hAB.mono HB8.out.size)⟩)
    (fun _ _ _ _ h _ => h) ⟨HM8.out, HC8.out.1, HC8.out.2.1, HB8.out⟩
    (fun x b W => w8.heap.size + 1 < b ∧ TokAt W x.2 b 0) (fun x b A B h hAB => ⟨h.1, h.2.but (Nat.ne_of_gt h.1) hAB⟩) ?_ ?_ ?_ ?_ ?_
  rotate_left
  · intro l k x W K hx hi hW hK
    simp only [encT]
    rw [fold2]
    simp only [List.setIfInBounds_toArray, List.set_cons_succ, List.set_cons_zero]
    gi_wp2_with fail
    generalize hb : W.heap.size = b
    exact hK b _ ((Below.refl _ W).alloc (Nat.le_refl _) _) ⟨by omega, by subst hb; exact TokAt.new W x.2⟩
  · intro l k x b W hx hi hA hW
    obtain ⟨a, t⟩ := x
    rw [HXs.out] at hx
    obtain ⟨g1, g2, g3, g4, g5⟩ := gaps_step HGp.out hx
    obtain ⟨hM, hn, he, hBw⟩ := hi
    have hkx := (List.getElem?_eq_some_iff.1 hx).1
    have htk : ts[k]? = some t := by rw [← HXt.out.1, List.getElem?_map, hx]; rfl
    have hkt : k < ts.length := by rw [HXt.out.2]; exact hkx
    simp only at g1 g2 g3 g4 g5
    obtain ⟨q, hq⟩ : ∃ q, q = a + t.text.length := ⟨_, rfl⟩
    have hsz : (str t.text).size = t.text.length := by rw [size_len, str_data]
    have hsl := size_len s
    have hqs : q ≤ s.size := by omega
    obtain ⟨e, hee⟩ : ∃ e, endAt xs k = e := ⟨_, rfl⟩
    rw [hee] at he g1 g4
    have hwr : IntKind.i64.wrap ((a : Int) + ((str t.text).size : Int)) = (q : Int) := by simp [IntKind.wrap, IntKind.bits, IntKind.signed]; omega
    have hEx : s.extract a q = str t.text := by
      have h1 : (s.extract a q).data.toList = t.text := by rw [ext_list, hq, Nat.add_sub_cancel_left]; exact g3
      rw [← h1]; rfl
    have HBl := Lib.hid (fun W => blank_any (s.extract e a) W (by rw [ByteArray.size_extract]; omega) (by rw [ext_list]; exact g4))
    have cn := cell_of_one hn
    have ce := cell_of_one he
    have zn := free_of_one hn
    have ze := free_of_one he
    have d0 : W.cell? ⟨b, 0, none⟩ = some (.int .i64 t.kind) := hA.2.c0
    have d1 : W.cell? ⟨b, 1, none⟩ = some (.string (str t.text)) := hA.2.c1
    have d2 : W.cell? ⟨b, 2, none⟩ = some (.int .u64 t.word) := hA.2.c2
    have d3 : W.cell? ⟨b, 3, none⟩ = some (.int .i64 t.line) := hA.2.c3
    have d4 : W.cell? ⟨b, 4, none⟩ = some (.int .i64 t.col) := hA.2.c4
    have nq := HNQ.out t.kind t.word t.line t.col (str t.text)
    have tx := hM.tx
    have sl := hM.sl
    obtain ⟨pb, po, rfl, _, hc⟩ : ∃ b o, p = some ⟨b, o, none⟩ ∧ b < w2.heap.size + 1 ∧ ∀ i t, ts[i]? = some t → TokAt W t b (o + i * 5) := by
      rcases hM.tk with h0 | h0
      · omega
      · exact h0
    obtain ⟨f0, f1, f2, f3, f4⟩ := hc k t htk
    have i0 : (0 : Int) ≤ (k : Int) := by omega
    have i1 : (k : Int) < (ts.length : Int) := by omega
    have HI := Lib.hid (And.intro hM (And.intro hn (And.intro he hBw)))
    have HQ := Lib.hid (show endAt xs (k + 1) = q by rw [g5, hq])
    have HR3 := HR2.out
    have n0 : (ts.length ≤ k) = False := eq_false (by omega)
    have n0i : ((ts.length : Int) ≤ (k : Int)) = False := eq_false (by omega)
    have n1 : (a < e) = False := eq_false (by omega)
    have n1i : ((a : Int) < (e : Int)) = False := eq_false (by omega)
    have n2 : (s.size < q) = False := eq_false (by omega)
    have n2i : ((s.size : Int) < (q : Int)) = False := eq_false (by omega)
    have b1 : a ≤ q := by omega
    have b1i : (a : Int) ≤ (q : Int) := by omega
    have b2i : (q : Int) ≤ (s.size : Int) := by omega
    have b3i : (e : Int) ≤ (a : Int) := by omega
    have b4 : a ≤ s.size := by omega
    have b4i : (a : Int) ≤ (s.size : Int) := by omega
    have b5i : (0 : Int) ≤ (a : Int) := by omega
    have b6i : (0 : Int) ≤ (e : Int) := by omega
    have HF : Hid (∀ n, Up w8.heap.size W (((W.drewN n).setCell ⟨w6.heap.size, 0, none⟩ (.int .i64 (IntKind.i64.wrap ((k : Int) + 1)))).setCell ⟨w6.heap.size + 1, 0, none⟩ (.int .i64 q)) ∧ (MFact s ts (some ⟨pb, po, none⟩) cap w.heap.size (w.heap.size + 1) w2.heap.size (w2.heap.size + 1) (((W.drewN n).setCell ⟨w6.heap.size, 0, none⟩ (.int .i64 (IntKind.i64.wrap ((k : Int) + 1)))).setCell ⟨w6.heap.size + 1, 0, none⟩ (.int .i64 q)) ∧
        (((W.drewN n).setCell ⟨w6.heap.size, 0, none⟩ (.int .i64 (IntKind.i64.wrap ((k : Int) + 1)))).setCell ⟨w6.heap.size + 1, 0, none⟩ (.int .i64 q)).heap[w6.heap.size]? = some (.cells #[.int .i64 ((k + 1 : Nat) : Int)] 3 (0, 0)) ∧
        (((W.drewN n).setCell ⟨w6.heap.size, 0, none⟩ (.int .i64 (IntKind.i64.wrap ((k : Int) + 1)))).setCell ⟨w6.heap.size + 1, 0, none⟩ (.int .i64 q)).heap[w6.heap.size + 1]? = some (.cells #[.int .i64 (endAt xs (k + 1))] 3 (0, 0)) ∧
        Below w.heap.size w (((W.drewN n).setCell ⟨w6.heap.size, 0, none⟩ (.int .i64 (IntKind.i64.wrap ((k : Int) + 1)))).setCell ⟨w6.heap.size + 1, 0, none⟩ (.int .i64 q)))) := Lib.hid (fun n => by
      have hN6 := HN6.out
      have h68 := HC8.out.2.2
      have hD : ∀ m, Below m W (W.drewN n) := fun m => below_drewN' (Below.refl m W) n
      have hB : Below (w2.heap.size + 1) W (((W.drewN n).setCell ⟨w6.heap.size, 0, none⟩ (.int .i64 (IntKind.i64.wrap ((k : Int) + 1)))).setCell ⟨w6.heap.size + 1, 0, none⟩ (.int .i64 q)) :=
        ((hD _).setCell (p := ⟨w6.heap.size, 0, none⟩) (by show w2.heap.size + 1 ≤ w6.heap.size; omega) _).setCell (p := ⟨w6.heap.size + 1, 0, none⟩) (by show w2.heap.size + 1 ≤ w6.heap.size + 1; omega) _
      have hn' : (W.drewN n).heap[w6.heap.size]? = some (.cells #[.int .i64 k] 3 (0, 0)) := ((hD (w6.heap.size + 2)).block _ (by omega)).trans hn
      have he' : (W.drewN n).heap[w6.heap.size + 1]? = some (.cells #[.int .i64 e] 3 (0, 0)) := ((hD (w6.heap.size + 2)).block _ (by omega)).trans he
      have hk1 : IntKind.i64.wrap ((k : Int) + 1) = ((k + 1 : Nat) : Int) := by simp [IntKind.wrap, IntKind.bits, IntKind.signed]; omega
      refine ⟨(((Up.refl w8.heap.size W).below (hD _)).setCell (p := ⟨w6.heap.size, 0, none⟩) (by show w6.heap.size < _; omega) _).setCell (p := ⟨w6.heap.size + 1, 0, none⟩) h68 _, hM.later hB, ?_, ?_, hBw.trans (hB.mono (by have := hM.nN.1; omega))⟩
      · rw [Below.heap_setCell _ _ _ _ (by show w6.heap.size ≠ w6.heap.size + 1; omega), ← hk1]; exact one_setCell hn'
      · rw [g5, ← hq]; exact one_setCell ((Below.heap_setCell _ _ _ _ (by show w6.heap.size + 1 ≠ w6.heap.size; omega)).trans he'))
    have HSz := Lib.hid (And.intro hsz hq)
    have hfn : Fence.wide.fn 30 := trivial
    clear hx hA g2 g3 g4 g5 hM hn he hBw hkx htk hc hsl hee hW hsz hq
    gi_wp2_with fail
    refine region_quiet (by kernel_rfl) (by kernel_rfl) (by kernel_rfl) ?_
    repeat (gi_big_quiet_step ((gi_at_call 30; refine CallsIn.quiet_of_same (CallsIn.inRound l (callsIn_wide.2 (HBl.out _))))))
    refine wpQuietIn_nil ?_
    rintro _ ⟨nq, rfl⟩
    gi_wp2_with fail
    have hmix : Tryz.prog.follows .mixedOrders = true := by kernel_rfl
    clear tx sl f0 f1 f2 f3 f4 d0 d2 d3 d4 n0 n0i n1 n1i n2 n2i b1i b3i b4i b5i b6i hfn
    refine region_round l (by kernel_rfl) hmix ?_
    simp only [List.size_toArray, List.length_cons, List.length_nil, Nat.reduceAdd, Array.replicate_succ, Array.replicate_zero, List.push_toArray, List.nil_append, List.cons_append]
    run_tac Go.regionWalkWInO (← `(tactic| fail)) false
    all_goals exact HF.out _
  · rintro D W hD ⟨hM, hn, he, hBw⟩ hDh
    have hsl := size_len s
    obtain ⟨e, hee⟩ : ∃ e, endAt xs xs.length = e := ⟨_, rfl⟩
    rw [HXs.out, hee] at he
    rw [HXs.out, ← HXt.out.2] at hn
    have hes : e ≤ s.size := by rw [← hee, hsl]; exact gaps_end_le HGp.out
    have hgap := gaps_end HGp.out
    rw [hee] at hgap
    have HBl := Lib.hid (fun W => blank_any (s.extract e s.size) W (by rw [ByteArray.size_extract]; omega) (by rw [ext_list, List.take_of_length_le (by rw [List.length_drop]; omega)]; exact hgap))
    have cn := cell_of_one hn
    have ce := cell_of_one he
    have tx := hM.tx
    have sl := hM.sl
    have rs := hM.rs
    have rz := hM.rz
    have hDN : w.heap.size + 1 < D := by have := hM.nN; have := HM8.out.nN; omega
    have HDh := Lib.hid hDh
    have HBW := Lib.hid hBw
    clear hgap hM hn he hBw hDh hee hsl
    gi_wp2_with fail
    refine ⟨trivial, ?_⟩
    refine (callsIn_wide.2 (HBl.out _)).mono ?_
    rintro e w' ⟨rfl, rfl⟩
    gi_wp2_with fail
    have hK' : (w'.setCell ⟨w.heap.size + 1, 0, none⟩ (.bool true)).heap[D]? = some (.deferred (some [])) := (Below.heap_setCell w' _ _ D (by show D ≠ w.heap.size + 1; omega)).trans HDh.out
    have hc' := World.cell?_setCell_same w' ⟨w.heap.size + 1, 0, none⟩ (.bool true) rs
    have hc2 : ((w'.setCell ⟨w.heap.size + 1, 0, none⟩ (.bool true)).putObj D (.deferred none)).cell? ⟨w.heap.size + 1, 0, none⟩ = some (.bool true) := (World.cell?_of_block (World.putObj_heap_other (by show w.heap.size + 1 ≠ D; omega))).trans hc'
    refine ⟨by simp, .inl ⟨_, _, rfl, run_takeDeferred hK', ?_⟩⟩
    refine ⟨.bool true, ?_, rfl, (HBW.out.setCell (p := ⟨w.heap.size + 1, 0, none⟩) (by show w.heap.size ≤ w.heap.size + 1; omega) _).trans (below_put _ (by omega))⟩
    simp [results, Tryz.results7, go_sem, hc2]
  · intro D c k W hD hk h
    exact h.elim
theorem means_law (s : ByteArray) (w : World) (hG : Glob w) : Calls Tryz.prog 7 #[.string s] w fun e w' => e = .returned (.bool true) ∧ Below w.heap.size w w' := by
  by_cases hl : 30000 < s.size
  · exact means_long s w hG hl
  · by_cases hE : (allF s.data.toList).1 = 0
    · exact means_good s w hG (by omega) hE
    · exact means_wrong s w hG (by omega) hE
end Go.Proofs.YtgffiggnmklcoaaGreatDoor
