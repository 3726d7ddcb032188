/- Lines that are laid: a block that they don't touch. -/
import Derived.Test.YtcadeeldogknmaaZ9
namespace Go.Proofs.Ytcadeeldogknmaa
open Go.RowKit

/-- nodes that the call has made, none of them in one block -/
def OutX (x : Nat) (w : World) (base : Nat) (v : Value) (l : Lf) : Prop :=
  ∃ (news : List Value) (S : Nat → Bool), w.ownsRow base 47 4 v l.len news ∧ l.Cells (cut S w) w.heap.size news ∧ (∀ i, S i = true → base ≤ i ∧ i < w.heap.size) ∧ (∀ g, v.ownBlock = some g → S g = false) ∧ S x = false ∧ v.ownBlock ≠ some x
theorem OutX.out {x base : Nat} {w : World} {v : Value} {l : Lf} (h : OutX x w base v l) : OutL w base v l := by
  obtain ⟨news, S, h1, h2, h3, h4, _⟩ := h
  exact ⟨news, S, h1, h2, h3, h4⟩
theorem OutX.of {x base : Nat} {w : World} {v : Value} {l : Lf} (h : OutL w base v l) (hx : w.heap.size ≤ x) : OutX x w base v l := by
  have hlt := fun g hg => OutG.lt (g := g) h hg
  obtain ⟨news, S, h1, h2, h3, h4⟩ := h
  refine ⟨news, S, h1, h2, h3, h4, ?_, fun e => by have := (hlt x e).2; omega⟩
  cases hS : S x with
  | false => rfl
  | true => have := (h3 x hS).2; omega
theorem OutX.lt {x base g : Nat} {w : World} {v : Value} {l : Lf} (h : OutX x w base v l) (hv : v.ownBlock = some g) : base ≤ g ∧ g < w.heap.size := OutG.lt h.out hv
theorem OutX.keepx {x base : Nat} {w w' : World} {v : Value} {l : Lf} (h : OutX x w base v l) (hB : ∀ i, base ≤ i → i < w.heap.size → i ≠ x → w'.heap[i]? = w.heap[i]?) (hs : w.heap.size ≤ w'.heap.size) : OutX x w' base v l := by
  obtain ⟨news, S, h1, h2, h3, h4, h5, h6⟩ := h
  refine ⟨news, S, own_keep h1 fun g hg hl hb => hB g hb hl (fun e => h6 (e ▸ hg)), mono_lf l _ _ _ _ _ h2 (Le.cut2 fun b hb => ⟨hb, fun o u hu => ?_⟩) hs, fun i hi => ⟨(h3 i hi).1, Nat.lt_of_lt_of_le (h3 i hi).2 hs⟩, h4, h5, h6⟩
  have := hB b (h3 b hb).1 (h3 b hb).2 (fun e => by subst e; rw [h5] at hb; cases hb)
  simp only [World.cell?] at hu ⊢
  rw [this]; exact hu
theorem OutX.keep {x base : Nat} {w w' : World} {v : Value} {l : Lf} (h : OutX x w base v l) (_ : MonoC fun v N news => l.Cells v N news) (hB : ∀ i, base ≤ i → i < w.heap.size → w'.heap[i]? = w.heap[i]?) (hs : w.heap.size ≤ w'.heap.size) : OutX x w' base v l := h.keepx (fun i h1 h2 _ => hB i h1 h2) hs
/-- how a laying ends -/
def RwEndX (x g base : Nat) (st : Int) (mp : Nat) (a : Lf) (v0 : Value) (w : World) (R : Option (Lf × Nat)) (e : Ending) (w' : World) : Prop :=
  match R with
  | some (y, m) => ∃ v, e = .returned v ∧ OutX x w' base v (a.cat y) ∧ RwS w' g st mp m ∧ Ch g v0.ownBlock w w' ∧ OwnTo w v0 v
  | none => e = panicked 2 ∧ Ch g v0.ownBlock w w'
theorem app_lfB {base : Nat} {v : Value} {ds : Lf} {k : Int} {is : List Int} {t : Bool} {subs : Ls} {W : World} {q1 q2 : Option Addr} {d1 d2 : Nat} (hO : OutL W base v ds) (hbase : base ≤ W.heap.size) (hN : NewB base (fun i => v.ownBlock == some i) W fun u N => Sl N q1 is.length (Ints u is) ∧ subs.In u N q2) (hl : ds.len ≤ 2000000000000) (ty : Nat) :
    ∃ qv cv W3, (Builtin.append_ #[23, 23] ty #[v, .slice (some ⟨W.heap.size, 0, none⟩) 1 1]).run Try.prog (W.alloc (.cells #[.int .i64 k, .slice q1 is.length d1, .bool t, .slice q2 subs.len d2] 47 (0, 0))) = .ok (.slice qv (ds.len + 1) cv) W3 ∧ OutL W3 base (.slice qv (ds.len + 1) cv) (ds.cat (.node k is t subs .nil)) ∧ (W.alloc (.cells #[.int .i64 k, .slice q1 is.length d1, .bool t, .slice q2 subs.len d2] 47 (0, 0))).grownBy W3 v.ownBlock ∧ OwnTo W v (.slice qv (ds.len + 1) cv) := by
  obtain ⟨i0, hi, hz0, hz1, hz2⟩ := info_parts info_leak
  obtain ⟨W2, hW2⟩ : ∃ W2, W2 = W.alloc (.cells #[.int .i64 k, .slice q1 is.length d1, .bool t, .slice q2 subs.len d2] 47 (0, 0)) := ⟨_, rfl⟩
  have hn : W2.heap[W.heap.size]? = some (.cells #[.int .i64 k, .slice q1 is.length d1, .bool t, .slice q2 subs.len d2] 47 (0, 0)) := by rw [hW2]; exact heap_alloc_new W _
  have hA : Below W.heap.size W W2 := by rw [hW2]; exact (Below.refl _ W).alloc (Nat.le_refl _) _
  have hs2 : W2.heap.size = W.heap.size + 1 := by rw [hW2]; simp
  have hO2 := hO.keep (w' := W2) (mono_lf ds) (fun i _ hl => hA.block i hl) hA.size
  obtain ⟨T, k2, k3⟩ := (hN.later ((mono_ints is q1).and (mono_lsin subs q2)) hA)
  obtain ⟨news, S, h1, h2, h3, h4⟩ := hO2
  rw [← hW2]
  obtain ⟨v', W3, hr, g1, g2, g3⟩ := run_app (P := Try.prog) W2 base 23 ty 47 i0 (.agg #[.int .i64 0, .slice none 0 0, .bool false, .slice none 0 0]) 4 64 Try.underlying23 hi hz0 hz1 hz2 rfl (by decide) v ds.len news h1 (some ⟨W.heap.size, 0, none⟩) 1 1 [.int .i64 k, .slice q1 is.length d1, .bool t, .slice q2 subs.len d2] ⟨rfl, .inr ⟨_, _, rfl, fun j u hu => by rw [Nat.zero_add]; exact cell_blk hn (by rw [← Array.getElem?_toList]; exact hu)⟩⟩ (by
    intro u hu
    simp only [List.mem_cons, List.not_mem_nil, or_false] at hu
    rcases hu with rfl | rfl | rfl | rfl <;> rfl) (by unfold maxLen; omega) (by omega) (by omega)
  have hOut := OutG.snoc (D := fun u N cs => (Lf.node k is t subs .nil).Cells u N cs) (C' := fun u N cs => (ds.cat (.node k is t subs .nil)).Cells u N cs) g1 g2 g3 h2 h3 h4 ⟨q1, d1, q2, d2, [], rfl, k2.1, k2.2, rfl⟩ (fun i hi => ⟨(k3 i hi).1, (k3 i hi).2.1⟩) (fun g hg => by
    cases hT : T g with
    | false => rfl
    | true => have := (k3 g hT).2.2; rw [hg] at this; simp at this) (mono_lf ds) (mono_lf _) (fun u N a b ha hb => Lf.Cells.cat hb ds a ha)
  obtain ⟨qv, cv, rfl, _⟩ := hOut.form
  refine ⟨qv, cv, W3, hr, ?_, g2, by rcases g3 with g3 | g3; (· exact .inl g3); (· exact .inr ⟨_, g3, by omega⟩)⟩
  unfold OutL
  rw [Lf.cat_len]
  exact hOut
theorem app_lfx {x base : Nat} {v : Value} {ds : Lf} {k : Int} {is : List Int} {t : Bool} {subs : Ls} {W W1 : World} {q1 q2 : Option Addr} {d1 d2 : Nat} (hO : OutX x W base v ds) (hx : x < W.heap.size) (hbase : base ≤ W.heap.size) (hB : Below W.heap.size W W1) (hN : New W W1 fun u N => Sl N q1 is.length (Ints u is) ∧ subs.In u N q2) (hl : ds.len ≤ 2000000000000) (ty : Nat) :
    ∃ qv cv W3, (Builtin.append_ #[23, 23] ty #[v, .slice (some ⟨W1.heap.size, 0, none⟩) 1 1]).run Try.prog (W1.alloc (.cells #[.int .i64 k, .slice q1 is.length d1, .bool t, .slice q2 subs.len d2] 47 (0, 0))) = .ok (.slice qv (ds.len + 1) cv) W3 ∧ OutX x W3 base (.slice qv (ds.len + 1) cv) (ds.cat (.node k is t subs .nil)) ∧ (W1.alloc (.cells #[.int .i64 k, .slice q1 is.length d1, .bool t, .slice q2 subs.len d2] 47 (0, 0))).grownBy W3 v.ownBlock ∧ OwnTo W v (.slice qv (ds.len + 1) cv) := by
  obtain ⟨i0, hi, hz0, hz1, hz2⟩ := info_parts info_leak
  obtain ⟨W2, hW2⟩ : ∃ W2, W2 = W1.alloc (.cells #[.int .i64 k, .slice q1 is.length d1, .bool t, .slice q2 subs.len d2] 47 (0, 0)) := ⟨_, rfl⟩
  have hn : W2.heap[W1.heap.size]? = some (.cells #[.int .i64 k, .slice q1 is.length d1, .bool t, .slice q2 subs.len d2] 47 (0, 0)) := by rw [hW2]; exact heap_alloc_new W1 _
  have hA : Below W1.heap.size W1 W2 := by rw [hW2]; exact (Below.refl _ W1).alloc (Nat.le_refl _) _
  have hs2 : W2.heap.size = W1.heap.size + 1 := by rw [hW2]; simp
  have hBs := hB.size
  have hO2 := hO.keep (w' := W2) (mono_lf ds) (fun i _ hl => (hA.block i (Nat.lt_of_lt_of_le hl hB.size)).trans (hB.block i hl)) (Nat.le_trans hB.size hA.size)
  obtain ⟨T, k2, k3⟩ := (hN.later ((mono_ints is q1).and (mono_lsin subs q2)) hA)
  have hlt := fun g hg => hO.lt (g := g) hg
  obtain ⟨news, S, h1, h2, h3, h4, h5, h6⟩ := hO2
  rw [← hW2]
  obtain ⟨v', W3, hr, g1, g2, g3⟩ := run_app (P := Try.prog) W2 base 23 ty 47 i0 (.agg #[.int .i64 0, .slice none 0 0, .bool false, .slice none 0 0]) 4 64 Try.underlying23 hi hz0 hz1 hz2 rfl (by decide) v ds.len news h1 (some ⟨W1.heap.size, 0, none⟩) 1 1 [.int .i64 k, .slice q1 is.length d1, .bool t, .slice q2 subs.len d2] ⟨rfl, .inr ⟨_, _, rfl, fun j u hu => by rw [Nat.zero_add]; exact cell_blk hn (by rw [← Array.getElem?_toList]; exact hu)⟩⟩ (by
    intro u hu
    simp only [List.mem_cons, List.not_mem_nil, or_false] at hu
    rcases hu with rfl | rfl | rfl | rfl <;> rfl) (by unfold maxLen; omega) (by omega) (by omega)
  have hTx : T x = false := by
    cases hT : T x with
    | false => rfl
    | true => have := (k3 x hT).1; omega
  have hT : ∀ g, v.ownBlock = some g → T g = false := fun g hg => by
    cases hT : T g with
    | false => rfl
    | true => have := (k3 g hT).1; have := (hlt g hg).2; omega
  have hS2 : S W2.heap.size = false ∧ T W2.heap.size = false := by
    constructor
    · cases hs : S W2.heap.size with
      | false => rfl
      | true => exact absurd (h3 _ hs).2 (Nat.lt_irrefl _)
    · cases hs : T W2.heap.size with
      | false => rfl
      | true => exact absurd (k3 _ hs).2 (Nat.lt_irrefl _)
  have hbl : ∀ i, i < W2.heap.size → (∀ g, v.ownBlock = some g → i ≠ g) → ∀ o u, W2.cell? ⟨i, o, none⟩ = some u → W3.cell? ⟨i, o, none⟩ = some u := fun i hi hn o u hu => by
    have := g2.block i hi (fun e => hn i e.symm rfl)
    simp only [World.cell?] at hu ⊢
    rw [this]; exact hu
  have hne : v'.ownBlock ≠ some x := by
    rcases g3 with g3 | g3
    · rw [g3]; exact h6
    · rw [g3]; intro e; injection e with e; omega
  obtain ⟨qv, cv, rfl⟩ : ∃ qv cv, v' = .slice qv (ds.len + 1) cv := by
    rcases g1.2 with ⟨h, e⟩ | ⟨g, cap, cur, e, _⟩
    · omega
    · exact ⟨_, _, e⟩
  have hrest : OwnTo W v (.slice qv (ds.len + 1) cv) := by rcases g3 with g3 | g3; (· exact .inl g3); (· exact .inr ⟨_, g3, by omega⟩)
  refine ⟨qv, cv, W3, hr, ⟨news ++ [.int .i64 k, .slice q1 is.length d1, .bool t, .slice q2 subs.len d2], fun i => S i || T i, by rw [Lf.cat_len]; exact g1, Lf.Cells.cat ?_ ds news ?_, fun i hi => ?_, fun g hg => ?_, by simp [h5, hTx], hne⟩, g2, hrest⟩
  · exact mono_lf (Lf.node k is t subs .nil) _ _ _ _ _ (⟨q1, d1, q2, d2, [], rfl, k2.1, k2.2, rfl⟩ : (Lf.node k is t subs .nil).Cells (cut T W2) W2.heap.size _) (Le.cut2 fun b hb => ⟨by simp [hb], hbl b (k3 b hb).2 fun g hg e => by subst e; rw [hT b hg] at hb; cases hb⟩) g2.size
  · exact mono_lf ds _ _ _ _ _ h2 (Le.cut2 fun b hb => ⟨by simp [hb], hbl b (h3 b hb).2 fun g hg e => by subst e; rw [h4 b hg] at hb; cases hb⟩) g2.size
  · have hi : S i = true ∨ T i = true := by simpa using hi
    rcases hi with h | h
    · exact ⟨(h3 i h).1, Nat.lt_of_lt_of_le (h3 i h).2 g2.size⟩
    · exact ⟨by have := (k3 i h).1; omega, Nat.lt_of_lt_of_le (k3 i h).2 g2.size⟩
  · rcases g3 with e | e
    · rw [e] at hg; simp [h4 g hg, hT g hg]
    · rw [e] at hg
      obtain rfl : W2.heap.size = g := by injection hg
      simp [hS2]
set_option maxRecDepth 100000 in
set_option maxHeartbeats 6400000 in
theorem lay_x (x g base mp m N : Nat) (st : Int) (a : Lf) (v : Value) (ls : List (List Pk)) (is : List Int) (p q : Option Addr) (c d : Nat) (w : World) (hr : RwS w g st mp m) (hO : OutX x w base v a) (hx : x < w.heap.size) (hg : g < base) (hbw : base ≤ w.heap.size) (hN : N ≤ base)
    (hls : ∀ W, Ch g v.ownBlock w W → Sl N p ls.length (Plines W N ls)) (his : ∀ W, Ch g v.ownBlock w W → Sl N q is.length (Ints W is)) (hok : picksOk ls = true) (hm : m + linesW ls ≤ 4611686018427387904) (ha : a.len + 1000001 ≤ 2000000000000) :
    Calls Try.prog 57 #[.pointer (some ⟨g, 0, none⟩), v, .agg #[.slice p ls.length c, .int .i64 (greatestL ls), .int .i64 (linesW ls)], .slice q is.length d] w (RwEndX x g base st mp a v w (layR st ls is m)) := by
  have HXx := Lib.hid hx
  clear hx
  have HLs := Lib.hid hls
  have HIs := Lib.hid his
  have HG := Lib.hid (And.intro hg (And.intro hbw hN))
  have HO := Lib.hid hO
  have HOk := Lib.hid hok
  have HM := Lib.hid (And.intro hm ha)
  have hml := (hls w (Ch.refl _ _ _)).1
  have hmi := (his w (Ch.refl _ _ _)).1
  obtain ⟨W0, hW0⟩ : ∃ W0, w.alloc (.cells #[.slice p ls.length c, .int .i64 (greatestL ls), .int .i64 (linesW ls)] 83 (0, 0)) = W0 := ⟨_, rfl⟩
  have hk0 := heap_alloc_new w (.cells #[.slice p ls.length c, .int .i64 (greatestL ls), .int .i64 (linesW ls)] 83 (0, 0))
  have hB0 : Below w.heap.size w W0 := by rw [← hW0]; exact (Below.refl _ w).alloc (Nat.le_refl _) _
  rw [hW0] at hk0
  have HW0 := Lib.hid (And.intro hW0 (And.intro hB0 hk0))
  have HR0 := Lib.hid (hr.later hB0 (by omega))
  have k0 := cell_blk hk0 (j := 0) rfl
  have k1 := cell_blk hk0 (j := 1) rfl
  have k2 := cell_blk hk0 (j := 2) rfl
  have HCh := Lib.hid (show Ch g v.ownBlock w W0 from Ch.of _ hB0)
  have HOv := Lib.hid (fun gg (hgg : v.ownBlock = some gg) => hO.lt hgg)
  clear hls his hg hbw hN hO hok hm ha hB0 hk0 hr
  by_cases hgr : greatestL ls < (is.length : Int)
  rotate_left
  · have HE := Lib.hid (show layR st ls is m = none by unfold layR; rw [if_neg hgr])
    have HMu := Lib.hid (must_false W0)
    clear k0 k2
    go_enter Try.func57, Try.ntmps57
    go_wp2_with fail
    refine HMu.out.mono ?_
    rintro e w1 ⟨rfl, rfl⟩
    refine ⟨rfl, ?_⟩
    rw [HE.out]
    exact ⟨rfl, HCh.out⟩
  have HMu := Lib.hid (must_true W0)
  have HE := Lib.hid (show layR st ls is m = some (if 1000000 < m + linesW ls then .nil else linesLf st is ls, m + linesW ls) by unfold layR; rw [if_pos hgr])
  have HGr := Lib.hid (great_line hgr)
  go_enter Try.func57, Try.ntmps57
  go_wp2_with fail
  refine HMu.out.mono ?_
  rintro e w1 ⟨rfl, rfl⟩
  go_upto_region 2 with fail
  obtain ⟨m2, hm2⟩ : ∃ m2, m2 = m + linesW ls := ⟨_, rfl⟩
  have hwr : IntKind.i64.wrap (m2 : Int) = (m2 : Int) := by have := HM.out.1; simp [IntKind.wrap, IntKind.bits, IntKind.signed]; omega
  have hsum : (m : Int) + (linesW ls : Int) = (m2 : Int) := by omega
  have hR := HR0.out.later (Below.refl W0.heap.size W0).drew HR0.out.lt
  have hK : W0.drew.cell? ⟨w.heap.size, 2, none⟩ = some (.int .i64 (linesW ls)) := k2
  have hgw : g ≠ w.heap.size := by have := HG.out; omega
  have hCd : Ch g v.ownBlock w W0.drew := HCh.out.trans (Ch.of v.ownBlock (Below.refl W0.heap.size W0).drew) (.inl rfl)
  have hOd : OutX x W0.drew base v a := (HO.out.keep (mono_lf a) (fun i _ hi => HW0.out.2.1.block i hi) HW0.out.2.1.size)
  have k0' : W0.drew.cell? ⟨w.heap.size, 0, none⟩ = some (.slice p ls.length c) := k0
  refine bgk 9 (fun W => W.cell? ⟨g, 2, none⟩ = some (.int .i64 m) ∧ W.cell? ⟨w.heap.size, 2, none⟩ = some (.int .i64 (linesW ls))) (⟨hR.c2, hK⟩) (fun hHeld => ?_)
  have HM2 := Lib.hid hm2
  clear k0 k1 k2 HCh HR0 hm2
  generalize W0.drew = W00 at hR hK hCd hOd k0' hHeld ⊢
  refine tk0 0 ?_ rfl (.inl ⟨by rfl, ?_⟩) ?_
  rotate_left
  · (intro w hSw; (try dsimp only at hSw); go_simp; try with_reducible rfl)
  try simp only [Act.put, List.setIfInBounds_toArray, List.set_cons_zero, List.set_cons_succ]
  refine tk0 1 ?_ rfl (.inl ⟨by rfl, ?_⟩) ?_
  rotate_left
  · (intro w hSw; (try dsimp only at hSw); go_simp; try with_reducible rfl)
  try simp only [Act.put, List.setIfInBounds_toArray, List.set_cons_zero, List.set_cons_succ]
  refine tk0 2 ?_ rfl (.inl ⟨by rfl, ?_⟩) ?_
  rotate_left
  · (intro w hSw; (try dsimp only at hSw); go_simp; try with_reducible rfl)
  try simp only [Act.put, List.setIfInBounds_toArray, List.set_cons_zero, List.set_cons_succ]
  refine tkl 3 ?_ rfl (.inl ⟨by rfl, ?_⟩) ?_
  rotate_left
  · (intro w hSw; (try dsimp only at hSw); go_simp; try with_reducible rfl)
  try simp only [Act.put, List.setIfInBounds_toArray, List.set_cons_zero, List.set_cons_succ]
  refine tk0 4 ?_ rfl (.inl ⟨by rfl, ?_⟩) ?_
  rotate_left
  · (intro w hSw; (try dsimp only at hSw); go_simp; try with_reducible rfl)
  try simp only [Act.put, List.setIfInBounds_toArray, List.set_cons_zero, List.set_cons_succ]
  refine tkl 5 ?_ rfl (.inl ⟨by rfl, ?_⟩) ?_
  rotate_left
  · (intro w hSw; (try dsimp only at hSw); go_simp; try with_reducible rfl)
  try simp only [Act.put, List.setIfInBounds_toArray, List.set_cons_zero, List.set_cons_succ]
  refine tk0 6 (.int .i64 (m2 : Int)) rfl (.inl ⟨by rfl, ?_⟩) ?_
  · (intro w hSw; (try dsimp only at hSw); go_simp)
  try simp only [Act.put, List.setIfInBounds_toArray, List.set_cons_zero, List.set_cons_succ]
  refine tk0 7 ?_ rfl (.inl ⟨by rfl, ?_⟩) ?_
  rotate_left
  · (intro w hSw; (try dsimp only at hSw); go_simp; try with_reducible rfl)
  try simp only [Act.put, List.setIfInBounds_toArray, List.set_cons_zero, List.set_cons_succ]
  refine tk0 8 ?_ rfl (.inl ⟨by rfl, ?_⟩) ?_
  rotate_left
  · (intro w hSw; (try dsimp only at hSw); go_simp; try with_reducible rfl)
  try simp only [Act.put, List.setIfInBounds_toArray, List.set_cons_zero, List.set_cons_succ]
  refine rdb 9 rfl (fun K hK => ?_)
  have f2 := hR.z2
  have c2 := hR.c2
  go_simp
  refine hK.out _ _ ?_
  have HR1 := Lib.hid (hR.put m2)
  have HC1 := Lib.hid (hCd.trans (Ch.put v.ownBlock W00 2 (.int .i64 m2)) (.inl rfl))
  have k0 : (W00.setCell ⟨g, 2, none⟩ (.int .i64 m2)).cell? ⟨w.heap.size, 0, none⟩ = some (.slice p ls.length c) := (World.cell?_setCell_other _ _ _ _ (fun e => hgw (by injection e))).trans k0'
  have HOk0 := Lib.hid (show OutX x (W00.setCell ⟨g, 2, none⟩ (.int .i64 m2)) base v a from hOd.keep (mono_lf a) (fun i hi _ => Below.heap_setCell _ _ _ _ (by have := HG.out.1; show i ≠ g; omega)) (by simp [World.setCell]))
  generalize W00.setCell ⟨g, 2, none⟩ (.int .i64 m2) = w1 at HR1 HC1 HOk0 k0 ⊢
  clear f2 c2 hR hK hCd hOd k0'
  clear hK K
  try simp only [Act.put, List.setIfInBounds_toArray, List.set_cons_zero, List.set_cons_succ]
  refine dnk ?_ (by kernel_rfl) _
  have l2 := HR1.out.c2
  rw [← HM2.out] at HE
  by_cases hbig : 1000000 < m2
  · have hbi : (1000000 : Int) < (m2 : Int) := by omega
    have HX := Lib.hid (show layR st ls is m = some (.nil, m2) by rw [HE.out, if_pos hbig])
    clear k0 hwr hsum
    go_wp2_with fail
    go_ret
    rw [HX.out]
    exact ⟨v, rfl, by rw [Lf.cat_nil]; exact HOk0.out, HR1.out, HC1.out, OwnTo.refl _ _⟩
  have hbi : ¬ (1000000 : Int) < (m2 : Int) := by omega
  have HX := Lib.hid (show layR st ls is m = some (linesLf st is ls, m2) by rw [HE.out, if_neg hbig])
  have HLw := Lib.hid (show ls.length ≤ 1000000 ∧ linesW ls ≤ 1000000 by have := linesW_len ls; omega)
  have HMem := Lib.hid (linesW_mem ls)
  have HOkp := Lib.hid (show ∀ l ∈ ls, ∀ x ∈ l, x.ok = true from fun l hl x hx => by
    have := HOk.out
    simp only [picksOk, List.all_eq_true] at this
    exact this l hl x hx)
  clear HE HOk hgr hwr hsum
  go_wp2_with fail
  clear k0 l2
  go_loopw [1, 38] (fun u1 i wr => ∃ (ds rs : List (List Pk)), i = .int .i64 ds.length ∧ ds.length + rs.length = ls.length ∧ Hid (ls = ds ++ rs) ∧ Hid (OutX x wr base u1 (a.cat (linesLf st is ds))) ∧ Hid (RwS wr g st mp m2) ∧ Hid (Ch g v.ownBlock w wr ∧ OwnTo w v u1)) (fun _ i _ => ls.length - (intOf i).toNat)
  case atStart => exact ⟨[], ls, rfl, by simp, Lib.hid rfl, by rw [linesLf, Lf.cat_nil]; exact HOk0, HR1, Lib.hid ⟨HC1.out, OwnTo.refl _ _⟩⟩
  case round =>
    clear HOk0 HR1 HC1
    obtain ⟨ds, rs, rfl, hk, hE, hO, hR, hC⟩ := hrel
    obtain ⟨wp, rfl⟩ : ∃ wp : World, wp = wr := ⟨_, rfl⟩
    cases rs with
    | nil =>
      simp only [List.length_nil] at hk
      have hge : ¬ ds.length < ls.length := by omega
      have HF := Lib.hid (show OutX x wp base u1 (a.cat (linesLf st is ls)) by have := hO.out; rw [show ls = ds by have := hE.out; simpa using this]; exact this)
      clear hE hO
      go_wp2_with fail
      go_ret
      rw [HX.out]
      exact ⟨u1, rfl, HF.out, hR.out, hC.out.1, hC.out.2⟩
    | cons l rs =>
      simp only [List.length_cons] at hk
      have hlt : ds.length < ls.length := by omega
      have hpl := HLs.out wp hC.out.1
      obtain ⟨b, o, hp, hbN, ha⟩ : ∃ b o, p = some ⟨b, o, none⟩ ∧ b < N ∧ Plines wp N ls b o := by
        rcases hpl.2 with h0 | ⟨b, o, hp, hb, ha⟩
        · omega
        · exact ⟨b, o, hp, hb, ha⟩
      obtain ⟨p2, c2, g1, s2⟩ := Plines.get ls b o ds.length l ha (by rw [hE.out]; simp)
      have hml2 : l.length ≤ 140737488355328 := s2.1
      have hlm : l ∈ ls := by rw [hE.out]; simp
      have HLl := Lib.hid (show l.length ≤ 1000000 by have := HMem.out l hlm; have := HLw.out.2; omega)
      have HOkl := Lib.hid (HOkp.out l hlm)
      have HGl := Lib.hid (HGr.out l hlm)
      have hbw : base ≤ wp.heap.size := Nat.le_trans HG.out.2.1 hC.out.1.size
      have HS2 := Lib.hid (fun (W : World) (hB : Below wp.heap.size wp W) => show Sl N p2 l.length (Picks W l) from s2.imp (Nat.le_refl N) fun b' o' hb' ha' => Picks.later (hB.mono (Nat.le_trans HG.out.2.2 hbw)) l b' o' hb' ha')
      have HBw := Lib.hid hbw
      subst hp
      obtain ⟨W1, hW1, kx, hB1, hz1⟩ : ∃ W, wp.alloc (.cells #[.int .i64 1, .slice none 0 0, .bool false, .slice none 0 0] 47 (0, 0)) = W ∧ W.heap[wp.heap.size]? = some (.cells #[.int .i64 1, .slice none 0 0, .bool false, .slice none 0 0] 47 (0, 0)) ∧ Below wp.heap.size wp W ∧ W.heap.size = wp.heap.size + 1 :=
        ⟨_, rfl, heap_alloc_new wp _, (Below.refl _ wp).alloc (Nat.le_refl _) _, by simp⟩
      have HX0 := Lib.hid (show XN W1 wp.heap.size (.slice none 0 0) from ⟨cell_blk kx rfl, cell_blk kx rfl, cell_blk kx rfl, cell_blk kx rfl, by simp [World.frozen?, kx]⟩)
      have HI0 := Lib.hid (show OutI W1 (wp.heap.size + 1) (.slice none 0 0) [] from OutG.nil _ _ _ _ _ rfl)
      have HB1 := Lib.hid hB1
      have HRp := Lib.hid (fun (W : World) (hB : Below wp.heap.size wp W) => show RwS W g st mp m2 from hR.out.later hB (by have := HG.out.1; omega))
      have HIp := Lib.hid (fun (W : World) (hB : Below wp.heap.size wp W) => show Sl N q is.length (Ints W is) from HIs.out W (hC.out.1.trans (Ch.of v.ownBlock hB) (.inl rfl)))
      have HW1 := Lib.hid hW1
      clear hpl ha s2 hlm kx hB1 hz1 hbw hW1
      go_wp2_with fail
      rw [HW1.out]
      clear HW1 g1
      generalize hXg : wp.heap.size = X at HX0 HI0 ⊢
      have HXg := Lib.hid hXg
      clear hXg
      go_loopw [45] (fun i wi => ∃ (us vs : List Pk) (qx : Option Addr) (cx : Nat), i = .int .i64 us.length ∧ us.length + vs.length = l.length ∧ Hid (l = us ++ vs) ∧ Hid (XN wi X (.slice qx us.length cx)) ∧ Hid (OutI wi (X + 1) (.slice qx us.length cx) (us.map (picked st is))) ∧ Hid (Below wp.heap.size wp wi)) (fun i _ => l.length - (intOf i).toNat)
      case atStart => exact ⟨[], l, none, 0, rfl, by simp, Lib.hid rfl, HX0, HI0, HB1⟩
      case round =>
        clear HX0 HI0 HB1
        obtain ⟨us, vs, qx, cx, rfl, hk2, hE2, hXN, hOI, hBi⟩ := hrel
        obtain ⟨wi, rfl⟩ : ∃ wi : World, wi = wr := ⟨_, rfl⟩
        have hXlt : X < wi.heap.size := hXN.out.lt
        cases vs with
        | nil =>
          simp only [List.length_nil] at hk2
          have hge2 : ¬ us.length < l.length := by omega
          obtain rfl : l = us := by have := hE2.out; simpa using this
          have hNew : New wp wi fun u N => Sl N qx (l.map (picked st is)).length (Ints u (l.map (picked st is))) ∧ Ls.nil.In u N none :=
            ((hOI.out.new (by have := HLl.out; simp; omega) (by have := HXg.out; omega)).2).both (show New wp wi fun u N => Ls.nil.In u N none from ⟨fun _ => false, Ls.In.nil _ _ _, fun _ h => by cases h⟩) (mono_ints _ _) (mono_lsin _ _)
          obtain ⟨qv, cv, w9, hrun, hO9, hgr9, hot9⟩ := app_lfx (k := 1) (t := false) (d1 := cx) (d2 := 0) hO.out (Nat.lt_of_lt_of_le HXx.out hC.out.1.size) HBw.out hBi.out hNew (by rw [Lf.cat_len, linesLf_len]; have := HM.out.2; have := HLw.out.1; omega) 23
          rw [List.length_map] at hrun hgr9
          have HRn := Lib.hid hrun
          have hBA : Below wp.heap.size wp (wi.alloc (.cells #[.int .i64 1, .slice qx l.length cx, .bool false, .slice none 0 0] 47 (0, 0))) := hBi.out.trans ((Below.refl _ wi).alloc hBi.out.size _)
          have hB9 : Ch g u1.ownBlock wp w9 := (Ch.of u1.ownBlock hBA).trans (Ch.grown hgr9 (fun e => by have := (hO.out.lt e).1; have := HG.out.1; omega)) (.inl rfl)
          have HC9 := Lib.hid (show Ch g v.ownBlock w w9 ∧ OwnTo w v (.slice qv ((a.cat (linesLf st is ds)).len + 1) cv) from ⟨hC.out.1.trans hB9 hC.out.2, hC.out.2.trans hot9 hC.out.1.size⟩)
          have HR9 := Lib.hid (show RwS w9 g st mp m2 from (HRp.out _ hBA).later ((Below.refl base _).grown hgr9 (Nat.le_trans HBw.out hBA.size) (fun gg hgg => (hO.out.lt hgg).1)) HG.out.1)
          have HO9 := Lib.hid (show OutX x w9 base (.slice qv ((a.cat (linesLf st is ds)).len + 1) cv) (a.cat (linesLf st is (ds ++ [l]))) by rw [linesLf_snoc, ← Lf.cat_assoc]; exact hO9)
          have x0 := hXN.out.c0
          have x1 := hXN.out.c1
          have x2 := hXN.out.c2
          have x3 := hXN.out.c3
          clear hNew hrun hO9 hgr9 hot9 hBA hB9 hXN hOI hBi
          go_wp2_with (at_builtin; refine Lib.wpList_append_run _ rfl _ _ _ _ rfl _ _ rfl rfl _ _ HRn.out ?_)
          clear x0 x1 x2 x3
          go_roundw
          case rel => exact ⟨ds ++ [l], rs, by rw [List.length_append]; go_num, by simp; omega, Lib.hid (by rw [hE.out]; simp), HO9, HR9, HC9⟩
          case measure => simp [intOf]; omega
        | cons pk vs =>
          simp only [List.length_cons] at hk2
          have hlt2 : us.length < l.length := by omega
          obtain ⟨b2, o2, hp2, hb2, ha2⟩ : ∃ b o, p2 = some ⟨b, o, none⟩ ∧ b < N ∧ Picks wi l b o := by
            rcases (HS2.out wi hBi.out).2 with h0 | ⟨b, o, hp, hb, ha⟩
            · omega
            · exact ⟨b, o, hp, hb, ha⟩
          obtain ⟨e0, e1, e2, e3⟩ := Picks.get l b2 o2 us.length pk ha2 (by rw [hE2.out]; simp)
          subst hp2
          have hpm : pk ∈ l := by rw [hE2.out]; simp
          obtain ⟨W2, hW2, ky, hB2, hz2⟩ : ∃ W, wi.alloc (.cells #[.int .i64 pk.kind, .int .i64 pk.item, .int .u64 pk.word, .bool pk.stack] 56 (0, 0)) = W ∧ W.heap[wi.heap.size]? = some (.cells #[.int .i64 pk.kind, .int .i64 pk.item, .int .u64 pk.word, .bool pk.stack] 56 (0, 0)) ∧ Below wi.heap.size wi W ∧ W.heap.size = wi.heap.size + 1 :=
            ⟨_, rfl, heap_alloc_new wi _, (Below.refl _ wi).alloc (Nat.le_refl _) _, by simp⟩
          clear ha2
          go_upto_region 12 with fail
          skip
          have hBd : Below wp.heap.size wp W2.drew := (hBi.out.trans (hB2.mono hBi.out.size)).drew
          have hXd : XN W2.drew X (.slice qx us.length cx) := hXN.out.later hB2.drew hXlt
          have HC := Lib.hid (picked_any g mp m2 N st is q d pk W2.drew (HRp.out _ hBd) (HIp.out _ hBd) (Nat.le_trans (Nat.le_trans HG.out.2.2 HBw.out) hBd.size) (HOkl.out pk hpm) (HGl.out pk hpm))
          have HOd := Lib.hid (show OutI W2.drew (X + 1) (.slice qx us.length cx) (us.map (picked st is)) from hOI.out.keep (mono_oi _) (fun i _ hi => hB2.block i hi) hB2.size)
          have HOw := Lib.hid (fun gg (hgg : (Value.slice qx us.length cx).ownBlock = some gg) => hOI.out.lt hgg)
          have HXs := Lib.hid (show X < W2.drew.heap.size from Nat.lt_of_lt_of_le hXlt hB2.size)
          have hY : W2.drew.heap[wi.heap.size]? = some (.cells #[.int .i64 pk.kind, .int .i64 pk.item, .int .u64 pk.word, .bool pk.stack] 56 (0, 0)) := ky
          have HYl := Lib.hid (lt_blk hY)
          have HLu := Lib.hid (show (us.map (picked st is)).length ≤ 1073741824 by rw [List.length_map]; have := HLl.out; omega)
          clear ky hB2 hz2 hW2 hOI hBi hXN e0 e1 e2 e3
          refine bgk 9 (fun W => W.cell? ⟨X, 1, none⟩ = some (.slice qx us.length cx) ∧ W.cell? ⟨wi.heap.size, 0, none⟩ = some (.int .i64 pk.kind) ∧ W.cell? ⟨wi.heap.size, 1, none⟩ = some (.int .i64 pk.item) ∧ W.cell? ⟨wi.heap.size, 2, none⟩ = some (.int .u64 pk.word) ∧ W.cell? ⟨wi.heap.size, 3, none⟩ = some (.bool pk.stack)) (⟨hXd.c1, cell_blk hY rfl, cell_blk hY rfl, cell_blk hY rfl, cell_blk hY rfl⟩) (fun hHeld => ?_)
          refine tk0 0 ?_ rfl (.inl ⟨by rfl, ?_⟩) ?_
          rotate_left
          · (intro w hSw; (try dsimp only at hSw); go_simp; try with_reducible rfl)
          try simp only [Act.put, List.setIfInBounds_toArray, List.set_cons_zero, List.set_cons_succ]
          refine tkl 1 ?_ rfl (.inl ⟨by rfl, ?_⟩) ?_
          rotate_left
          · (intro w hSw; (try dsimp only at hSw); go_simp; try with_reducible rfl)
          try simp only [Act.put, List.setIfInBounds_toArray, List.set_cons_zero, List.set_cons_succ]
          refine tk0 2 ?_ rfl (.inl ⟨by rfl, ?_⟩) ?_
          rotate_left
          · (intro w hSw; (try dsimp only at hSw); go_simp; try with_reducible rfl)
          try simp only [Act.put, List.setIfInBounds_toArray, List.set_cons_zero, List.set_cons_succ]
          refine tkl 3 ?_ rfl (.inl ⟨by rfl, ?_⟩) ?_
          rotate_left
          · (intro w hSw; (try dsimp only at hSw); go_simp; try with_reducible rfl)
          try simp only [Act.put, List.setIfInBounds_toArray, List.set_cons_zero, List.set_cons_succ]
          refine tk0 4 ?_ rfl (.inl ⟨by rfl, ?_⟩) ?_
          rotate_left
          · (intro w hSw; (try dsimp only at hSw); go_simp; try with_reducible rfl)
          try simp only [Act.put, List.setIfInBounds_toArray, List.set_cons_zero, List.set_cons_succ]
          refine rdk 5 rfl (fun K hK => ?_)
          go_simp
          refine HC.out.mono ?_
          rintro e w3 ⟨rfl, hB3⟩
          replace hXd := hXd.later hB3 HXs.out
          replace hY := (hB3.block _ HYl.out).trans hY
          have hBd3 := hBd.trans (hB3.mono hBd.size)
          obtain ⟨qv, cv, w4, hrun, hO4, hgr4⟩ := app_int (x := picked st is pk) (show OutI w3 (X + 1) (.slice qx us.length cx) (us.map (picked st is)) from HOd.out.keep (mono_oi _) (fun i _ hi => hB3.block i hi) hB3.size) (Nat.lt_of_lt_of_le HXs.out hB3.size) HLu.out 44
          rw [List.length_map] at hrun hO4
          have HRn := Lib.hid hrun
          have HO4 := Lib.hid (And.intro hO4 hgr4)
          have hBA := hBd3.trans ((Below.refl _ w3).alloc hBd3.size (.cells #[.int .u64 (picked st is pk)] 24 (0, 0)))
          have hXl3 := hXd.lt
          have hYl3 := lt_blk hY
          clear HC hrun hO4 hgr4
          refine hK.out _ _ ?_ (fun hHeld => ?_)
          · exact ⟨hXd.c1, cell_blk hY rfl, cell_blk hY rfl, cell_blk hY rfl, cell_blk hY rfl⟩
          clear hK K
          try simp only [Act.put, List.setIfInBounds_toArray, List.set_cons_zero, List.set_cons_succ]
          refine rdk 6 rfl (fun K hK => ?_)
          go_simp
          refine hK.out _ _ ?_ (fun hHeld => ?_)
          · exact ⟨(hXd.later ((Below.refl w3.heap.size w3).alloc (Nat.le_refl _) _) hXl3).c1, cell_blk ((((Below.refl w3.heap.size w3).alloc (Nat.le_refl _) _).block _ hYl3).trans hY) rfl, cell_blk ((((Below.refl w3.heap.size w3).alloc (Nat.le_refl _) _).block _ hYl3).trans hY) rfl, cell_blk ((((Below.refl w3.heap.size w3).alloc (Nat.le_refl _) _).block _ hYl3).trans hY) rfl, cell_blk ((((Below.refl w3.heap.size w3).alloc (Nat.le_refl _) _).block _ hYl3).trans hY) rfl⟩
          replace hXd := hXd.later ((Below.refl w3.heap.size w3).alloc (Nat.le_refl _) (.cells #[.int .u64 (picked st is pk)] 24 (0, 0))) hXl3
          replace hY := (((Below.refl w3.heap.size w3).alloc (Nat.le_refl _) (.cells #[.int .u64 (picked st is pk)] 24 (0, 0))).block _ hYl3).trans hY
          clear hK K
          try simp only [Act.put, List.setIfInBounds_toArray, List.set_cons_zero, List.set_cons_succ]
          refine rdk 7 rfl (fun K hK => ?_)
          refine stepK_app _ _ _ rfl rfl rfl rfl HRn.out ?_
          refine hK.out _ _ ?_ (fun hHeld => ?_)
          · exact ⟨(hXd.later ((Below.refl (X + 1) (w3.alloc (.cells #[.int .u64 (picked st is pk)] 24 (0, 0)))).grown HO4.out.2 (Nat.lt_of_lt_of_le hXl3 (by simp)) (fun gg hgg => (HOd.out.lt hgg).1)) (Nat.lt_succ_self X)).c1, cell_blk ((HO4.out.2.block _ (lt_blk hY) (fun e => by have := (HOw.out _ e.symm).2; omega)).trans hY) rfl, cell_blk ((HO4.out.2.block _ (lt_blk hY) (fun e => by have := (HOw.out _ e.symm).2; omega)).trans hY) rfl, cell_blk ((HO4.out.2.block _ (lt_blk hY) (fun e => by have := (HOw.out _ e.symm).2; omega)).trans hY) rfl, cell_blk ((HO4.out.2.block _ (lt_blk hY) (fun e => by have := (HOw.out _ e.symm).2; omega)).trans hY) rfl⟩
          have hBg := (Below.refl wp.heap.size (w3.alloc (.cells #[.int .u64 (picked st is pk)] 24 (0, 0)))).grown HO4.out.2 hBA.size (fun gg hgg => by have h1 := (HOd.out.lt hgg).1; have := HXg.out; omega)
          replace hXd := hXd.later ((Below.refl (X + 1) (w3.alloc (.cells #[.int .u64 (picked st is pk)] 24 (0, 0)))).grown HO4.out.2 (Nat.lt_of_lt_of_le hXl3 (by simp)) (fun gg hgg => (HOd.out.lt hgg).1)) (Nat.lt_succ_self X)
          clear hK K
          try simp only [Act.put, List.setIfInBounds_toArray, List.set_cons_zero, List.set_cons_succ]
          refine tk0 8 ?_ rfl (.inl ⟨by rfl, ?_⟩) ?_
          rotate_left
          · (intro w hSw; (try dsimp only at hSw); go_simp; try with_reducible rfl)
          try simp only [Act.put, List.setIfInBounds_toArray, List.set_cons_zero, List.set_cons_succ]
          refine rdb 9 rfl (fun K hK => ?_)
          have f1 := hXd.f1
          have c1 := hXd.c1
          go_simp
          refine hK.out _ _ ?_
          have HXp := Lib.hid (hXd.put (.slice qv (us.length + 1) cv))
          have HOp := Lib.hid (show OutI (w4.setCell ⟨X, 1, none⟩ (.slice qv (us.length + 1) cv)) (X + 1) (.slice qv (us.length + 1) cv) (us.map (picked st is) ++ [picked st is pk]) from HO4.out.1.keep (mono_oi _) (fun i hi _ => Below.heap_setCell _ _ _ _ (by show i ≠ X; omega)) (by simp [World.setCell]))
          have HBp := Lib.hid ((hBA.trans hBg).setCell (p := ⟨X, 1, none⟩) (show wp.heap.size ≤ X by have := HXg.out; omega) (.slice qv (us.length + 1) cv))
          clear f1 c1 hXd hY hBA hBg hBd hBd3
          clear hK K
          try simp only [Act.put, List.setIfInBounds_toArray, List.set_cons_zero, List.set_cons_succ]
          refine dnk ?_ (by kernel_rfl) _
          go_wp2_with fail
          go_roundw
          case rel => exact ⟨us ++ [pk], vs, qv, cv, by rw [List.length_append]; go_num, by simp; omega, Lib.hid (by rw [hE2.out]; simp), by rw [List.length_append, List.length_singleton]; exact HXp, by rw [List.map_append, List.length_append, List.length_singleton]; exact HOp, HBp⟩
          case measure => simp [intOf]; omega
theorem RwIn.layx {x g base mp m W : Nat} {st : Int} {a : Lf} {v : Value} {w : World} (h : RwIn g base mp m st a v W w) (hX : OutX x w base v a) (hx : x < w.heap.size) (hW : 1 ≤ W) {ls : List (List Pk)} {is : List Int} {p q : Option Addr} {c d : Nat} (hls : ∀ W, Ch g v.ownBlock w W → Sl base p ls.length (Plines W base ls)) (his : ∀ W, Ch g v.ownBlock w W → Sl base q is.length (Ints W is)) (hok : picksOk ls = true) (hl : linesW ls ≤ 1048576) :
    Calls Try.prog 57 #[.pointer (some ⟨g, 0, none⟩), v, .agg #[.slice p ls.length c, .int .i64 (greatestL ls), .int .i64 (linesW ls)], .slice q is.length d] w (RwEndX x g base st mp a v w (layR st ls is m)) :=
  lay_x x g base mp m base st a v ls is p q c d w h.r hX hx h.hg h.hb (Nat.le_refl _) hls his hok (by have := h.hm; omega) (by have := h.ha; have := cap6_le m; omega)
end Go.Proofs.Ytcadeeldogknmaa
