/- A branch that is laid. -/
import Derived.Test.YtcadeeldogknmaaZB
import Derived.Test.YtcadeeldogknmaaZA
namespace Go.Proofs.Ytcadeeldogknmaa
open Go.RowKit

/-- the branch as it is made -/
structure AX (W : World) (X : Nat) (iv sv : Value) (t : Bool) : Prop where
  c0 : W.cell? ⟨X, 0, none⟩ = some (.int .i64 2)
  c1 : W.cell? ⟨X, 1, none⟩ = some iv
  c2 : W.cell? ⟨X, 2, none⟩ = some (.bool t)
  c3 : W.cell? ⟨X, 3, none⟩ = some sv
  fz : ∀ o, W.frozen? ⟨X, o, none⟩ = false
theorem AX.lt {W : World} {X : Nat} {iv sv : Value} {t : Bool} (h : AX W X iv sv t) : X < W.heap.size := World.block_lt_of_cell? _ _ h.c0
theorem AX.later {W W' : World} {X : Nat} {iv sv : Value} {t : Bool} (h : AX W X iv sv t) (hB : W'.heap[X]? = W.heap[X]?) : AX W' X iv sv t := by
  have e : ∀ o, W'.cell? ⟨X, o, none⟩ = W.cell? ⟨X, o, none⟩ := fun o => by simp only [World.cell?, hB]
  exact ⟨(e 0).trans h.c0, (e 1).trans h.c1, (e 2).trans h.c2, (e 3).trans h.c3, fun o => (World.frozen?_of_block hB).trans (h.fz o)⟩
theorem AX.put1 {W : World} {X : Nat} {iv sv : Value} {t : Bool} (h : AX W X iv sv t) (u : Value) : AX (W.setCell ⟨X, 1, none⟩ u) X u sv t :=
  ⟨(World.cell?_setCell_other _ _ _ _ (by simp)).trans h.c0, World.cell?_setCell_same _ _ _ h.c1, (World.cell?_setCell_other _ _ _ _ (by simp)).trans h.c2, (World.cell?_setCell_other _ _ _ _ (by simp)).trans h.c3, fun o => (World.frozen?_setCells X [u] 1 W ⟨X, o, none⟩).trans (h.fz o)⟩
theorem AX.put3 {W : World} {X : Nat} {iv sv : Value} {t : Bool} (h : AX W X iv sv t) (u : Value) : AX (W.setCell ⟨X, 3, none⟩ u) X iv u t :=
  ⟨(World.cell?_setCell_other _ _ _ _ (by simp)).trans h.c0, (World.cell?_setCell_other _ _ _ _ (by simp)).trans h.c1, (World.cell?_setCell_other _ _ _ _ (by simp)).trans h.c2, World.cell?_setCell_same _ _ _ h.c3, fun o => (World.frozen?_setCells X [u] 3 W ⟨X, o, none⟩).trans (h.fz o)⟩
theorem Ch.below2 {g : Nat} {row : Option Nat} {w w1 w2 : World} (h : Ch g row w w1) (k : Below w.heap.size w1 w2) (hg : g < w.heap.size) : Ch g row w w2 :=
  ⟨k.os.trans h.os, k.tape.trans h.tape, k.output.trans h.output, Nat.le_trans h.size k.size, fun i hi hn hw => (k.block i hi).trans (h.block i hi hn hw), fun hl o => (World.frozen?_of_block (k.block g hg)).trans (h.fz hl o)⟩
theorem NewB.both {lo : Nat} {X : Nat → Bool} {W : World} {P Q : World → Nat → Prop} (h : NewB lo X W P) (k : NewB lo X W Q) (hP : MonoP P) (hQ : MonoP Q) : NewB lo X W fun v N => P v N ∧ Q v N := by
  obtain ⟨S, h1, h2⟩ := h
  obtain ⟨T, k1, k2⟩ := k
  refine ⟨fun i => S i || T i, ⟨hP _ _ _ _ h1 (Le.cut2 fun b hb => ⟨by simp [hb], fun _ _ h => h⟩) (Nat.le_refl _), hQ _ _ _ _ k1 (Le.cut2 fun b hb => ⟨by simp [hb], fun _ _ h => h⟩) (Nat.le_refl _)⟩, fun i hi => ?_⟩
  have : S i = true ∨ T i = true := by simpa using hi
  rcases this with h | h
  · exact h2 i h
  · exact k2 i h
theorem NewB.weak {lo lo' : Nat} {X X' : Nat → Bool} {W : World} {P : World → Nat → Prop} (h : NewB lo X W P) (hl : lo' ≤ lo) (hX : ∀ i, lo ≤ i → i < W.heap.size → X i = false → X' i = false) : NewB lo' X' W P := by
  obtain ⟨T, h1, h2⟩ := h
  exact ⟨T, h1, fun i hi => ⟨Nat.le_trans hl (h2 i hi).1, (h2 i hi).2.1, hX i (h2 i hi).1 (h2 i hi).2.1 (h2 i hi).2.2⟩⟩
theorem OutL.newB {w : World} {base : Nat} {v : Value} {l : Lf} (h : OutL w base v l) (hl : l.len ≤ 140737488355328) : ∃ (p : Option Addr) (c : Nat), v = .slice p l.len c ∧ NewB base (fun _ => false) w fun u N => l.In u N p := by
  obtain ⟨p, c, T, hv, h1, h2⟩ := h.in hl
  exact ⟨p, c, hv, T, h1, fun i hi => ⟨(h2 i hi).1, (h2 i hi).2, rfl⟩⟩
/-- a row of one list -/
theorem oneSub {lo : Nat} {X : Nat → Bool} {W : World} {z : Lf} {q : Option Addr} {d : Nat} (h : NewB lo X W fun u N => z.In u N q) (hlo : lo ≤ W.heap.size) (hX : X W.heap.size = false) : NewB lo X (W.alloc (.cells #[.slice q z.len d] 23 (0, 0))) fun u N => (Ls.sub z .nil).In u N (some ⟨W.heap.size, 0, none⟩) := by
  obtain ⟨W2, hW2⟩ : ∃ W2, W2 = W.alloc (.cells #[.slice q z.len d] 23 (0, 0)) := ⟨_, rfl⟩
  have hn : W2.heap[W.heap.size]? = some (.cells #[.slice q z.len d] 23 (0, 0)) := by rw [hW2]; exact heap_alloc_new W _
  have hA : Below W.heap.size W W2 := by rw [hW2]; exact (Below.refl _ W).alloc (Nat.le_refl _) _
  have hs2 : W2.heap.size = W.heap.size + 1 := by rw [hW2]; simp
  rw [← hW2]
  obtain ⟨T, h1, h2⟩ := h.later (mono_lfin z q) hA
  refine ⟨fun i => T i || i == W.heap.size, ⟨by simp [Ls.len], .inr ⟨W.heap.size, 0, rfl, by omega, ⟨⟨q, d, ?_, ?_⟩, trivial⟩⟩⟩, fun i hi => ?_⟩
  · rw [cell_cut, if_pos (by simp)]; exact cell_blk hn rfl
  · exact mono_lfin z q _ _ _ _ h1 (Le.cut2 fun b hb => ⟨by simp [hb], fun _ _ h => h⟩) (Nat.le_refl _)
  · have : T i = true ∨ i = W.heap.size := by simpa using hi
    rcases this with h | rfl
    · exact h2 i h
    · exact ⟨hlo, by omega, hX⟩
set_option maxRecDepth 100000 in
set_option maxHeartbeats 3200000 in
theorem asking_any (n : Nat) (hRL : RL n) (ls : List (List Pk)) (t : Rc) (xk : Int) (xi : List Int) (xt : Bool) (l : Lf) (b : Bool) (bn on g base mp m : Nat) (st : Int) (a : Lf) (v : Value) (w : World) (p tp : Option Addr) (c tc : Nat) (hwt : l.wt < n) (hi : RwIn g base mp m st a v (1 + xi.length + (1 + l.wt)) w)
    (hls : ∀ W, Ch g v.ownBlock w W → Sl base p ls.length (Plines W base ls)) (ht : ∀ W, Ch g v.ownBlock w W → t.In W base tp) (hx : ∀ W, Ch g v.ownBlock w W → (Lf.node xk xi xt (.sub l .nil) .nil).At W base bn on) (hbn : bn < base) (hok : picksOk ls = true) (hl : linesW ls ≤ 1048576) (htf : t.fine) (hsh : l.shaped = true) :
    Calls Try.prog 59 #[.pointer (some ⟨g, 0, none⟩), v, .agg #[.slice p ls.length c, .int .i64 (greatestL ls), .int .i64 (linesW ls)], .slice tp t.len tc, .pointer (some ⟨bn, on, none⟩), .bool b] w (RwEnd g base st mp a v w (askR st ls xi xt m fun m => Ls.goFirst st (.sub l .nil) t b m)) := by
  obtain ⟨p1, q1, c1, d1, hX⟩ := xfix_of hx hbn hi.hb hi.row
  obtain ⟨b1, o1, p2, c2, hq1, hF⟩ := first_ls (fun W hW => (hX W hW).s3) hi.hb hi.row
  subst hq1
  have HI := Lib.hid hi
  have HX := Lib.hid hX
  have HF := Lib.hid hF
  have HL := Lib.hid hls
  have HT := Lib.hid ht
  have HS := Lib.hid (And.intro hok (And.intro hl (And.intro htf (And.intro hsh hwt))))
  clear hX hF hi hls ht hx hok hl htf hsh hwt
  have x := HX.out w (Ch.refl _ _ _)
  have x1 := x.c1
  have x2 := x.c2
  have hbw : bn < w.heap.size := Nat.lt_of_lt_of_le hbn HI.out.hb
  clear x
  obtain ⟨W1, hW1, k8, hB1, hz1⟩ : ∃ W, w.alloc (.cells #[.slice p ls.length c, .int .i64 (greatestL ls), .int .i64 (linesW ls)] 83 (0, 0)) = W ∧ W.heap[w.heap.size]? = some (.cells #[.slice p ls.length c, .int .i64 (greatestL ls), .int .i64 (linesW ls)] 83 (0, 0)) ∧ Below w.heap.size w W ∧ W.heap.size = w.heap.size + 1 :=
    ⟨_, rfl, heap_alloc_new w _, (Below.refl _ w).alloc (Nat.le_refl _) _, by simp⟩
  obtain ⟨W2, hW2, kX, hB2, hz2⟩ : ∃ W, W1.alloc (.cells #[.int .i64 2, .slice none 0 0, .bool xt, .slice none 0 0] 47 (0, 0)) = W ∧ W.heap[w.heap.size + 1]? = some (.cells #[.int .i64 2, .slice none 0 0, .bool xt, .slice none 0 0] 47 (0, 0)) ∧ Below W1.heap.size W1 W ∧ W.heap.size = W1.heap.size + 1 :=
    ⟨_, rfl, by rw [← hz1]; exact heap_alloc_new W1 _, (Below.refl _ W1).alloc (Nat.le_refl _) _, by simp⟩
  have HW1 := Lib.hid hW1
  have HW2 := Lib.hid hW2
  have hBB := hB1.trans (hB2.mono hB1.size)
  have HB := Lib.hid (show Below w.heap.size w W2 ∧ W2.heap.size = w.heap.size + 2 ∧ W2.heap[w.heap.size]? = some (.cells #[.slice p ls.length c, .int .i64 (greatestL ls), .int .i64 (linesW ls)] 83 (0, 0)) ∧ AX W2 (w.heap.size + 1) (.slice none 0 0) (.slice none 0 0) xt from
    ⟨hBB, by omega, (hB2.block _ (by omega)).trans k8, ⟨cell_blk kX rfl, cell_blk kX rfl, cell_blk kX rfl, cell_blk kX rfl, fun o => by simp [World.frozen?, kX]⟩⟩)
  have HC := Lib.hid (copyItems_new xi p1 c1 base W2 (HX.out W2 (Ch.of v.ownBlock hBB)).s1 (by have := HI.out.hW; omega))
  clear hW1 hW2 k8 kX hB1 hB2 hz1 hz2 hBB
  by_cases h0 : ls.length = 0
  · have hz : ((ls.length : Int) == 0) = true := by simp [h0]
    have HIs0 := Lib.hid (show xi = (if ls.isEmpty then xi else []) by rw [show ls = [] from List.length_eq_zero_iff.1 h0]; rfl)
    clear h0
    go_enter Try.func59, Try.ntmps59
    go_wp2_with fail
    rw [HW1.out, HW2.out]
    refine HC.out.mono ?_
    rintro e wc ⟨qi, di, rfl, hBc, hNc⟩
    have hA := HB.out.2.2.2.later (hBc.block _ (by have := HB.out.2.1; omega))
    have a1 := hA.c1
    have f1 := hA.fz 1
    have hAp := hA.put1 (.slice qi xi.length di)
    have hXne : ∀ i, i ≠ w.heap.size + 1 → (wc.setCell ⟨w.heap.size + 1, 1, none⟩ (.slice qi xi.length di)).heap[i]? = wc.heap[i]? := fun i hi => Below.heap_setCell _ _ _ _ hi
    have hsz : (wc.setCell ⟨w.heap.size + 1, 1, none⟩ (.slice qi xi.length di)).heap.size = wc.heap.size := by simp [World.setCell]
    have hNp : NewB w.heap.size (fun i => i == w.heap.size + 1) (wc.setCell ⟨w.heap.size + 1, 1, none⟩ (.slice qi xi.length di)) fun u N => Sl N qi xi.length (Ints u xi) :=
      (hNc.toB (X := fun i => i == w.heap.size + 1) (lo := w.heap.size) (by have := HB.out.2.1; omega) (fun i hi _ => by have := HB.out.2.1; simp; omega)).keep (mono_ints xi qi) (fun k _ _ hk => hXne k (by simpa using hk)) (by omega)
    have hBp : Below w.heap.size w (wc.setCell ⟨w.heap.size + 1, 1, none⟩ (.slice qi xi.length di)) := (HB.out.1.trans (hBc.mono HB.out.1.size)).setCell (p := ⟨w.heap.size + 1, 1, none⟩) (Nat.le_succ _) _
    have hkp : (wc.setCell ⟨w.heap.size + 1, 1, none⟩ (.slice qi xi.length di)).heap[w.heap.size]? = some (.cells #[.slice p ls.length c, .int .i64 (greatestL ls), .int .i64 (linesW ls)] 83 (0, 0)) := (hXne _ (by omega)).trans ((hBc.block _ (by have := HB.out.2.1; omega)).trans HB.out.2.2.1)
    have hsp : w.heap.size + 2 ≤ (wc.setCell ⟨w.heap.size + 1, 1, none⟩ (.slice qi xi.length di)).heap.size := by have := HB.out.2.1; have := hBc.size; omega
    obtain ⟨Wk, hWk⟩ : ∃ Wk, wc.setCell ⟨w.heap.size + 1, 1, none⟩ (.slice qi xi.length di) = Wk := ⟨_, rfl⟩
    rw [hWk] at hBp hsp hkp hAp hNp
    obtain ⟨is', q3, d3, HIs, HP⟩ : ∃ (is' : List Int) (q3 : Option Addr) (d3 : Nat), Hid (is' = (if ls.isEmpty then xi else [])) ∧ Hid (Below w.heap.size w Wk ∧ w.heap.size + 2 ≤ Wk.heap.size ∧ Wk.heap[w.heap.size]? = some (.cells #[.slice p ls.length c, .int .i64 (greatestL ls), .int .i64 (linesW ls)] 83 (0, 0)) ∧ AX Wk (w.heap.size + 1) (.slice q3 is'.length d3) (.slice none 0 0) xt ∧ NewB w.heap.size (fun i => i == w.heap.size + 1) Wk (fun u N => Sl N q3 is'.length (Ints u is'))) := ⟨xi, qi, di, HIs0, Lib.hid ⟨hBp, hsp, hkp, hAp, hNp⟩⟩
    have HWk := Lib.hid hWk
    clear hWk
    clear hBp hsp hkp hAp hNp hXne hsz hA HC
    go_wp2_with fail
    rw [HWk.out]
    clear HWk a1 f1 hBc hNc HIs0
    clear HB HW1 HW2
    have hBkd := HP.out.1.drew
    have HCk := Lib.hid (Ch.of (g := g) v.ownBlock hBkd)
    have HId := Lib.hid (HI.out.next (HI.out.r.later hBkd HI.out.r.lt) (HI.out.o.keep (mono_lf a) (fun i _ hi => hBkd.block i hi) hBkd.size) HCk.out (OwnTo.refl _ _) HI.out.hm HI.out.ha (Nat.le_refl _))
    have HOX := Lib.hid ((OutX.of (x := w.heap.size + 1) HI.out.o (by omega)).keep (mono_lf a) (fun i _ hi => hBkd.block i hi) hBkd.size)
    have HLy := Lib.hid (HId.out.layx HOX.out (by have := HP.out.2.1; show w.heap.size + 1 < Wk.heap.size; omega) (by omega) (fun W hW => HL.out W (HCk.out.trans hW (.inl rfl))) (fun W hW => (HX.out W (HCk.out.trans hW (.inl rfl))).s1) HS.out.1 HS.out.2.1 (c := c) (d := c1))
    have y1 := (HX.out Wk (Ch.of v.ownBlock HP.out.1)).c1
    have b0 : Wk.cell? ⟨w.heap.size, 0, none⟩ = some (.slice p ls.length c) := cell_blk HP.out.2.2.1 rfl
    have b1' : Wk.cell? ⟨w.heap.size, 1, none⟩ = some (.int .i64 (greatestL ls)) := cell_blk HP.out.2.2.1 rfl
    have b2 : Wk.cell? ⟨w.heap.size, 2, none⟩ = some (.int .i64 (linesW ls)) := cell_blk HP.out.2.2.1 rfl
    clear x1 x2 hBkd
    go_still_tail 7, (by kernel_rfl)
    change wpList _ _ _ _ _ (World.drew _)
    go_wp2_with fail
    refine HLy.out.mono ?_
    rintro e w1 hE
    cases hR : layR st ls xi m with
    | none =>
      rw [hR] at hE
      obtain ⟨rfl, hC⟩ := hE
      refine ⟨rfl, ?_⟩
      rw [show askR st ls xi xt m (fun m => Ls.goFirst st (.sub l .nil) t b m) = none by unfold askR; rw [hR]; rfl]
      exact ⟨rfl, HCk.out.trans hC (.inl rfl)⟩
    | some r =>
      obtain ⟨y, m1⟩ := r
      rw [hR] at hE
      obtain ⟨v1, rfl, hO1, hr1, hC1', hT1'⟩ := hE
      obtain ⟨qv1, cv1, rfl, _⟩ := OutG.form hO1.out
      have HR := Lib.hid hR
      clear hR
      have HC1' := Lib.hid hC1'
      have hC1 : Ch g v.ownBlock w w1 := HCk.out.trans hC1' (.inl rfl)
      have hT1 : OwnTo w v (.slice qv1 (a.cat y).len cv1) := (OwnTo.refl w v).trans hT1' HP.out.1.size
      have HT1' := Lib.hid (show (Value.slice qv1 (a.cat y).len cv1).ownBlock = v.ownBlock ∨ ∃ k, (Value.slice qv1 (a.cat y).len cv1).ownBlock = some k ∧ Wk.heap.size ≤ k from hT1')
      have hbd := lay_bnd HS.out.2.1 y m1 HR.out
      have HI1 := Lib.hid (show RwIn g base mp m1 st (a.cat y) (.slice qv1 (a.cat y).len cv1) (1 + l.wt) w1 from HI.out.next hr1 hO1.out hC1 hT1 (by have := HI.out.hm; omega) (by rw [Lf.cat_len]; have := HI.out.ha; have := Lf.len_wt y; omega) (by omega))
      have hRLc := hRL l HS.out.2.2.2.2 t tp p2 tc c2 b g w1.heap.size mp m1 st .nil (.slice none 0 0) w1 (HI1.out.inner (W' := l.wt) (by omega)) (fun W hW => mono_rcin t tp _ _ _ _ (HT.out W (hC1.trans (show Ch g none w1 W from hW).none (.inl rfl))) (Le.refl _) HI1.out.hb) (fun W hW => mono_lfin l p2 _ _ _ _ ((HF.out W (hC1.trans (show Ch g none w1 W from hW).none (.inl rfl))).2) (Le.refl _) HI1.out.hb) HS.out.2.2.1 HS.out.2.2.2.1
      have HRLc := Lib.hid hRLc
      have HO1 := Lib.hid hO1
      have HT1 := Lib.hid hT1
      have HC1 := Lib.hid hC1
      have HA1 := Lib.hid (HP.out.2.2.2.1.later (W' := w1) (hC1'.block (w.heap.size + 1) (by have := HP.out.2.1; show w.heap.size + 1 < Wk.heap.size; omega) (by have := HI.out.hg; have := HI.out.hb; omega) (fun e => by have := (HI.out.o.lt e).2; omega)))
      have z3 : w1.cell? ⟨bn, on + 3, none⟩ = some (.slice (some ⟨b1, o1, none⟩) 1 d1) := (HX.out w1 hC1).c3
      have z4 := (HF.out w1 hC1).1
      clear hRLc hO1 hr1 hC1' hT1' hT1 hC1 hbd HLy y1 b0 b1' b2
      go_wp2_with fail
      refine HRLc.out.mono ?_
      rintro e w2 hE2
      cases hR2 : (if asMany t.len l.len b = true then l.go st t b m1 else none) with
      | none =>
        rw [hR2] at hE2
        obtain ⟨rfl, hC2⟩ := hE2
        refine ⟨rfl, ?_⟩
        rw [show askR st ls xi xt m (fun m => Ls.goFirst st (.sub l .nil) t b m) = none by unfold askR Ls.goFirst; rw [HR.out]; unfold then2; dsimp only; rw [hR2]]
        exact ⟨rfl, HC1.out.trans (show Ch g none w1 w2 from hC2).none (.inl rfl)⟩
      | some r =>
        obtain ⟨z, m2⟩ := r
        rw [hR2] at hE2
        obtain ⟨v2, rfl, hO2, hr2, hC2, hT2⟩ := hE2
        have hbz := rw_bnd (go_bnd st l t b m1 HS.out.2.2.1) z m2 hR2
        have HR2 := Lib.hid hR2
        clear hR2 hT2
        have hC2 : Ch g none w1 w2 := hC2
        have hzl : z.len ≤ 140737488355328 := by have := Lf.len_wt z; have := HI1.out.hW; have := cap6_le m2; omega
        obtain ⟨qz, cz, rfl, hNz⟩ := OutL.newB (l := z) hO2 hzl
        have HNz := Lib.hid hNz
        have HC2 := Lib.hid hC2
        have HR2' := Lib.hid hr2
        have HBz := Lib.hid hbz
        have hA2 := HA1.out.later (hC2.block _ HA1.out.lt (by have := HI.out.hg; have := HI.out.hb; omega) (by simp))
        have X0 := hA2.c0
        have X1 := hA2.c1
        have X2 := hA2.c2
        have X3 := hA2.c3
        have F3 := hA2.fz 3
        have hlx : w.heap.size + 1 < w2.heap.size := hA2.lt
        obtain ⟨W4, hW4⟩ : ∃ W4, (w2.setCell ⟨w.heap.size + 1, 3, none⟩ (.slice (some ⟨w2.heap.size, 0, none⟩) 1 1)).alloc (.cells #[.slice qz z.len cz] 23 (0, 0)) = W4 := ⟨_, rfl⟩
        have HW4 := Lib.hid hW4
        have hXw : ∀ i, i ≠ w.heap.size + 1 → (w2.setCell ⟨w.heap.size + 1, 3, none⟩ (.slice (some ⟨w2.heap.size, 0, none⟩) 1 1)).heap[i]? = w2.heap[i]? := fun i hi => Below.heap_setCell _ _ _ _ hi
        have hsp : (w2.setCell ⟨w.heap.size + 1, 3, none⟩ (.slice (some ⟨w2.heap.size, 0, none⟩) 1 1)).heap.size = w2.heap.size := by simp [World.setCell]
        have hBp : Below base w2 (w2.setCell ⟨w.heap.size + 1, 3, none⟩ (.slice (some ⟨w2.heap.size, 0, none⟩) 1 1)) := (Below.refl _ w2).setCell (p := ⟨w.heap.size + 1, 3, none⟩) (by have := HI.out.hb; show base ≤ w.heap.size + 1; omega) _
        have hBpw : Below w.heap.size w2 (w2.setCell ⟨w.heap.size + 1, 3, none⟩ (.slice (some ⟨w2.heap.size, 0, none⟩) 1 1)) := (Below.refl _ w2).setCell (p := ⟨w.heap.size + 1, 3, none⟩) (Nat.le_succ _) _
        generalize w2.setCell ⟨w.heap.size + 1, 3, none⟩ (.slice (some ⟨w2.heap.size, 0, none⟩) 1 1) = Wp at hW4 hXw hsp hBp hBpw
        have hA4 : Below Wp.heap.size Wp W4 := by rw [← hW4]; exact (Below.refl _ Wp).alloc (Nat.le_refl _) _
        have hs4 : W4.heap.size = w2.heap.size + 1 := by rw [← hW4, ← hsp]; simp
        have hgb := HI.out.hg
        have hbs := HI.out.hb
        have hw12 := hC2.size
        have hwk1 : Wk.heap.size ≤ w1.heap.size := HC1'.out.size
        have hwk := HP.out.2.1
        obtain ⟨Xs, hXs⟩ : ∃ Xs : Nat → Bool, Xs = fun i => (i == w.heap.size + 1) || ((Value.slice qv1 (a.cat y).len cv1).ownBlock == some i) := ⟨_, rfl⟩
        have hXf : ∀ i, i ≠ w.heap.size + 1 → (Value.slice qv1 (a.cat y).len cv1).ownBlock ≠ some i → Xs i = false := fun i h1 h2 => by rw [hXs]; simp [h1, h2]
        have hXn : ∀ i, Xs i = false → i ≠ w.heap.size + 1 ∧ (Value.slice qv1 (a.cat y).len cv1).ownBlock ≠ some i := fun i h => by rw [hXs] at h; simp at h; exact h
        have hv1 : ∀ i, (Value.slice qv1 (a.cat y).len cv1).ownBlock = some i → base ≤ i ∧ i < w1.heap.size := fun i h => HO1.out.lt h
        have hP2 : NewB base Xs W4 fun u N => (Ls.sub z .nil).In u N (some ⟨w2.heap.size, 0, none⟩) := by
          have h1 : NewB w1.heap.size Xs w2 fun u N => z.In u N qz := hNz.weak (Nat.le_refl _) fun i h1 _ _ => hXf i (by omega) (fun e => by have := (hv1 i e).2; omega)
          have h2 := (h1.keep (W' := Wp) (mono_lfin z qz) (fun k _ _ hk => hXw k (hXn k hk).1) (Nat.le_of_eq hsp.symm)).weak (lo' := base) HI1.out.hb (fun _ _ _ h => h)
          have h3 := oneSub (d := cz) h2 (by omega) (hXf _ (by omega) (fun e => by have := (hv1 _ e).2; omega))
          rw [hW4, hsp] at h3
          exact h3
        have hP1 : NewB base Xs W4 fun u N => Sl N q3 is'.length (Ints u is') := by
          have h1 : NewB w.heap.size Xs Wk fun u N => Sl N q3 is'.length (Ints u is') := HP.out.2.2.2.2.weak (Nat.le_refl _) fun i h1 h2 h3 => hXf i (by simpa using h3) (fun e => by
            rcases HT1'.out with h | ⟨k, h, hk⟩
            · rw [h] at e; have := (HI.out.o.lt e).2; omega
            · rw [h] at e; injection e with e; omega)
          exact (h1.keep (W' := W4) (mono_ints is' q3) (fun k hk1 hk2 hk => by
            rw [hA4.block k (by omega), hXw k (hXn k hk).1, hC2.block k (by omega) (by omega) (by simp)]
            exact HC1'.out.block k (by exact hk2) (by omega) (fun e => by have := (HI.out.o.lt e).2; omega)) (by omega)).weak (by omega) (fun _ _ _ h => h)
        have hN4 : NewB base (fun i => (Value.slice qv1 (a.cat y).len cv1).ownBlock == some i) W4 fun u N => Sl N q3 is'.length (Ints u is') ∧ (Ls.sub z .nil).In u N (some ⟨w2.heap.size, 0, none⟩) :=
          (hP1.both hP2 (mono_ints is' q3) (mono_lsin _ _)).weak (Nat.le_refl _) (fun i _ _ h => by simpa using (hXn i h).2)
        have hO4 : OutL W4 base (.slice qv1 (a.cat y).len cv1) (a.cat y) := (HO1.out.keepx (w' := W4) (fun i h1 h2 h3 => by rw [hA4.block i (by omega), hXw i h3, hC2.block i (by omega) (by omega) (by simp)]) (by omega)).out
        obtain ⟨qv, cv, w5, hrun, hO5, hgr, hot⟩ := app_lfB (k := 2) (t := xt) (d1 := d3) (d2 := 1) hO4 (by omega) hN4 (by have := HI1.out.ha; have := cap6_le m1; omega) 23
        obtain ⟨W5, hW5⟩ : ∃ W5, W4.alloc (.cells #[.int .i64 2, .slice q3 is'.length d3, .bool xt, .slice (some ⟨w2.heap.size, 0, none⟩) 1 1] 47 (0, 0)) = W5 := ⟨_, rfl⟩
        have hA5 : Below W4.heap.size W4 W5 := by rw [← hW5]; exact (Below.refl _ W4).alloc (Nat.le_refl _) _
        have hgr5 : W5.grownBy w5 (Value.slice qv1 (a.cat y).len cv1).ownBlock := by rw [← hW5]; exact hgr
        have hC4 : Ch g v.ownBlock w W5 := ((HC1.out.trans hC2.none (.inl rfl)).below2 hBpw (by omega)).below2 ((hA4.mono (by omega)).trans (hA5.mono (by omega))) (by omega)
        have hC5 : Ch g v.ownBlock w w5 := hC4.trans (Ch.grown hgr5 (fun e => by have := (hv1 _ e).1; omega)) HT1.out
        have hr5 : RwS w5 g st mp m2 := hr2.later (((hBp.trans ((hA4.mono (by omega)).trans (hA5.mono (by omega)))).grown hgr5 (by have := hA5.size; omega) (fun k hk => (hv1 k hk).1))) hgb
        rw [hs4] at hrun
        have HRn := Lib.hid hrun
        have HE := Lib.hid (show askR st ls xi xt m (fun m => Ls.goFirst st (.sub l .nil) t b m) = some (y.cat (.node 2 is' xt (.sub z .nil) .nil), m2) by
          unfold askR Ls.goFirst; rw [HR.out]; unfold then2; dsimp only; rw [HR2.out, HIs.out])
        have HF5 := Lib.hid (show OutL w5 base (.slice qv ((a.cat y).len + 1) cv) (a.cat (y.cat (.node 2 is' xt (.sub z .nil) .nil))) ∧ RwS w5 g st mp m2 ∧ Ch g v.ownBlock w w5 ∧ OwnTo w v (.slice qv ((a.cat y).len + 1) cv) from
          ⟨by rw [← Lf.cat_assoc]; exact hO5, hr5, hC5, HT1.out.trans hot (by omega)⟩)
        clear hr5 hC5 hC4 hgr5 hA5 hgr hot hO5 hrun hO4 hN4 hP1 hP2 hv1 hXn hXf hXs hbs hgb hw12 hwk1 hwk hs4 hA4 hBpw hBp hsp hXw hW4 hW5 hO2 hr2 hC2 hbz hNz z3 z4 HRLc hzl hA2
        go_wp2_with (at_builtin; rw [HW4.out]; refine Lib.wpList_append_run _ rfl _ _ _ _ rfl _ _ rfl rfl _ _ HRn.out ?_)
        go_ret
        rw [HE.out]
        exact ⟨_, rfl, HF5.out⟩
  · have hz : ((ls.length : Int) == 0) = false := by simp only [beq_eq_false_iff_ne, ne_eq]; omega
    have HIs0 := Lib.hid (show ([] : List Int) = (if ls.isEmpty then xi else []) by
      cases ls with
      | nil => simp at h0
      | cons x r => rfl)
    clear h0
    go_enter Try.func59, Try.ntmps59
    go_wp2_with fail
    rw [HW1.out, HW2.out]
    obtain ⟨Wk, hWk⟩ : ∃ Wk, W2 = Wk := ⟨_, rfl⟩
    obtain ⟨is', q3, d3, HIs, HP⟩ : ∃ (is' : List Int) (q3 : Option Addr) (d3 : Nat), Hid (is' = (if ls.isEmpty then xi else [])) ∧ Hid (Below w.heap.size w Wk ∧ w.heap.size + 2 ≤ Wk.heap.size ∧ Wk.heap[w.heap.size]? = some (.cells #[.slice p ls.length c, .int .i64 (greatestL ls), .int .i64 (linesW ls)] 83 (0, 0)) ∧ AX Wk (w.heap.size + 1) (.slice q3 is'.length d3) (.slice none 0 0) xt ∧ NewB w.heap.size (fun i => i == w.heap.size + 1) Wk (fun u N => Sl N q3 is'.length (Ints u is'))) := by
      subst hWk
      exact ⟨[], none, 0, HIs0, Lib.hid ⟨HB.out.1, Nat.le_of_eq HB.out.2.1.symm, HB.out.2.2.1, HB.out.2.2.2, fun _ => false, ⟨Nat.zero_le _, .inl rfl⟩, fun _ h => by cases h⟩⟩
    rw [hWk]
    clear HB HW1 HW2 HC HIs0 hWk
    have hBkd := HP.out.1.drew
    have HCk := Lib.hid (Ch.of (g := g) v.ownBlock hBkd)
    have HId := Lib.hid (HI.out.next (HI.out.r.later hBkd HI.out.r.lt) (HI.out.o.keep (mono_lf a) (fun i _ hi => hBkd.block i hi) hBkd.size) HCk.out (OwnTo.refl _ _) HI.out.hm HI.out.ha (Nat.le_refl _))
    have HOX := Lib.hid ((OutX.of (x := w.heap.size + 1) HI.out.o (by omega)).keep (mono_lf a) (fun i _ hi => hBkd.block i hi) hBkd.size)
    have HLy := Lib.hid (HId.out.layx HOX.out (by have := HP.out.2.1; show w.heap.size + 1 < Wk.heap.size; omega) (by omega) (fun W hW => HL.out W (HCk.out.trans hW (.inl rfl))) (fun W hW => (HX.out W (HCk.out.trans hW (.inl rfl))).s1) HS.out.1 HS.out.2.1 (c := c) (d := c1))
    have y1 := (HX.out Wk (Ch.of v.ownBlock HP.out.1)).c1
    have b0 : Wk.cell? ⟨w.heap.size, 0, none⟩ = some (.slice p ls.length c) := cell_blk HP.out.2.2.1 rfl
    have b1' : Wk.cell? ⟨w.heap.size, 1, none⟩ = some (.int .i64 (greatestL ls)) := cell_blk HP.out.2.2.1 rfl
    have b2 : Wk.cell? ⟨w.heap.size, 2, none⟩ = some (.int .i64 (linesW ls)) := cell_blk HP.out.2.2.1 rfl
    clear x1 x2 hBkd
    go_still_tail 7, (by kernel_rfl)
    change wpList _ _ _ _ _ (World.drew _)
    go_wp2_with fail
    refine HLy.out.mono ?_
    rintro e w1 hE
    cases hR : layR st ls xi m with
    | none =>
      rw [hR] at hE
      obtain ⟨rfl, hC⟩ := hE
      refine ⟨rfl, ?_⟩
      rw [show askR st ls xi xt m (fun m => Ls.goFirst st (.sub l .nil) t b m) = none by unfold askR; rw [hR]; rfl]
      exact ⟨rfl, HCk.out.trans hC (.inl rfl)⟩
    | some r =>
      obtain ⟨y, m1⟩ := r
      rw [hR] at hE
      obtain ⟨v1, rfl, hO1, hr1, hC1', hT1'⟩ := hE
      obtain ⟨qv1, cv1, rfl, _⟩ := OutG.form hO1.out
      have HR := Lib.hid hR
      clear hR
      have HC1' := Lib.hid hC1'
      have hC1 : Ch g v.ownBlock w w1 := HCk.out.trans hC1' (.inl rfl)
      have hT1 : OwnTo w v (.slice qv1 (a.cat y).len cv1) := (OwnTo.refl w v).trans hT1' HP.out.1.size
      have HT1' := Lib.hid (show (Value.slice qv1 (a.cat y).len cv1).ownBlock = v.ownBlock ∨ ∃ k, (Value.slice qv1 (a.cat y).len cv1).ownBlock = some k ∧ Wk.heap.size ≤ k from hT1')
      have hbd := lay_bnd HS.out.2.1 y m1 HR.out
      have HI1 := Lib.hid (show RwIn g base mp m1 st (a.cat y) (.slice qv1 (a.cat y).len cv1) (1 + l.wt) w1 from HI.out.next hr1 hO1.out hC1 hT1 (by have := HI.out.hm; omega) (by rw [Lf.cat_len]; have := HI.out.ha; have := Lf.len_wt y; omega) (by omega))
      have hRLc := hRL l HS.out.2.2.2.2 t tp p2 tc c2 b g w1.heap.size mp m1 st .nil (.slice none 0 0) w1 (HI1.out.inner (W' := l.wt) (by omega)) (fun W hW => mono_rcin t tp _ _ _ _ (HT.out W (hC1.trans (show Ch g none w1 W from hW).none (.inl rfl))) (Le.refl _) HI1.out.hb) (fun W hW => mono_lfin l p2 _ _ _ _ ((HF.out W (hC1.trans (show Ch g none w1 W from hW).none (.inl rfl))).2) (Le.refl _) HI1.out.hb) HS.out.2.2.1 HS.out.2.2.2.1
      have HRLc := Lib.hid hRLc
      have HO1 := Lib.hid hO1
      have HT1 := Lib.hid hT1
      have HC1 := Lib.hid hC1
      have HA1 := Lib.hid (HP.out.2.2.2.1.later (W' := w1) (hC1'.block (w.heap.size + 1) (by have := HP.out.2.1; show w.heap.size + 1 < Wk.heap.size; omega) (by have := HI.out.hg; have := HI.out.hb; omega) (fun e => by have := (HI.out.o.lt e).2; omega)))
      have z3 : w1.cell? ⟨bn, on + 3, none⟩ = some (.slice (some ⟨b1, o1, none⟩) 1 d1) := (HX.out w1 hC1).c3
      have z4 := (HF.out w1 hC1).1
      clear hRLc hO1 hr1 hC1' hT1' hT1 hC1 hbd HLy y1 b0 b1' b2
      go_wp2_with fail
      refine HRLc.out.mono ?_
      rintro e w2 hE2
      cases hR2 : (if asMany t.len l.len b = true then l.go st t b m1 else none) with
      | none =>
        rw [hR2] at hE2
        obtain ⟨rfl, hC2⟩ := hE2
        refine ⟨rfl, ?_⟩
        rw [show askR st ls xi xt m (fun m => Ls.goFirst st (.sub l .nil) t b m) = none by unfold askR Ls.goFirst; rw [HR.out]; unfold then2; dsimp only; rw [hR2]]
        exact ⟨rfl, HC1.out.trans (show Ch g none w1 w2 from hC2).none (.inl rfl)⟩
      | some r =>
        obtain ⟨z, m2⟩ := r
        rw [hR2] at hE2
        obtain ⟨v2, rfl, hO2, hr2, hC2, hT2⟩ := hE2
        have hbz := rw_bnd (go_bnd st l t b m1 HS.out.2.2.1) z m2 hR2
        have HR2 := Lib.hid hR2
        clear hR2 hT2
        have hC2 : Ch g none w1 w2 := hC2
        have hzl : z.len ≤ 140737488355328 := by have := Lf.len_wt z; have := HI1.out.hW; have := cap6_le m2; omega
        obtain ⟨qz, cz, rfl, hNz⟩ := OutL.newB (l := z) hO2 hzl
        have HNz := Lib.hid hNz
        have HC2 := Lib.hid hC2
        have HR2' := Lib.hid hr2
        have HBz := Lib.hid hbz
        have hA2 := HA1.out.later (hC2.block _ HA1.out.lt (by have := HI.out.hg; have := HI.out.hb; omega) (by simp))
        have X0 := hA2.c0
        have X1 := hA2.c1
        have X2 := hA2.c2
        have X3 := hA2.c3
        have F3 := hA2.fz 3
        have hlx : w.heap.size + 1 < w2.heap.size := hA2.lt
        obtain ⟨W4, hW4⟩ : ∃ W4, (w2.setCell ⟨w.heap.size + 1, 3, none⟩ (.slice (some ⟨w2.heap.size, 0, none⟩) 1 1)).alloc (.cells #[.slice qz z.len cz] 23 (0, 0)) = W4 := ⟨_, rfl⟩
        have HW4 := Lib.hid hW4
        have hXw : ∀ i, i ≠ w.heap.size + 1 → (w2.setCell ⟨w.heap.size + 1, 3, none⟩ (.slice (some ⟨w2.heap.size, 0, none⟩) 1 1)).heap[i]? = w2.heap[i]? := fun i hi => Below.heap_setCell _ _ _ _ hi
        have hsp : (w2.setCell ⟨w.heap.size + 1, 3, none⟩ (.slice (some ⟨w2.heap.size, 0, none⟩) 1 1)).heap.size = w2.heap.size := by simp [World.setCell]
        have hBp : Below base w2 (w2.setCell ⟨w.heap.size + 1, 3, none⟩ (.slice (some ⟨w2.heap.size, 0, none⟩) 1 1)) := (Below.refl _ w2).setCell (p := ⟨w.heap.size + 1, 3, none⟩) (by have := HI.out.hb; show base ≤ w.heap.size + 1; omega) _
        have hBpw : Below w.heap.size w2 (w2.setCell ⟨w.heap.size + 1, 3, none⟩ (.slice (some ⟨w2.heap.size, 0, none⟩) 1 1)) := (Below.refl _ w2).setCell (p := ⟨w.heap.size + 1, 3, none⟩) (Nat.le_succ _) _
        generalize w2.setCell ⟨w.heap.size + 1, 3, none⟩ (.slice (some ⟨w2.heap.size, 0, none⟩) 1 1) = Wp at hW4 hXw hsp hBp hBpw
        have hA4 : Below Wp.heap.size Wp W4 := by rw [← hW4]; exact (Below.refl _ Wp).alloc (Nat.le_refl _) _
        have hs4 : W4.heap.size = w2.heap.size + 1 := by rw [← hW4, ← hsp]; simp
        have hgb := HI.out.hg
        have hbs := HI.out.hb
        have hw12 := hC2.size
        have hwk1 : Wk.heap.size ≤ w1.heap.size := HC1'.out.size
        have hwk := HP.out.2.1
        obtain ⟨Xs, hXs⟩ : ∃ Xs : Nat → Bool, Xs = fun i => (i == w.heap.size + 1) || ((Value.slice qv1 (a.cat y).len cv1).ownBlock == some i) := ⟨_, rfl⟩
        have hXf : ∀ i, i ≠ w.heap.size + 1 → (Value.slice qv1 (a.cat y).len cv1).ownBlock ≠ some i → Xs i = false := fun i h1 h2 => by rw [hXs]; simp [h1, h2]
        have hXn : ∀ i, Xs i = false → i ≠ w.heap.size + 1 ∧ (Value.slice qv1 (a.cat y).len cv1).ownBlock ≠ some i := fun i h => by rw [hXs] at h; simp at h; exact h
        have hv1 : ∀ i, (Value.slice qv1 (a.cat y).len cv1).ownBlock = some i → base ≤ i ∧ i < w1.heap.size := fun i h => HO1.out.lt h
        have hP2 : NewB base Xs W4 fun u N => (Ls.sub z .nil).In u N (some ⟨w2.heap.size, 0, none⟩) := by
          have h1 : NewB w1.heap.size Xs w2 fun u N => z.In u N qz := hNz.weak (Nat.le_refl _) fun i h1 _ _ => hXf i (by omega) (fun e => by have := (hv1 i e).2; omega)
          have h2 := (h1.keep (W' := Wp) (mono_lfin z qz) (fun k _ _ hk => hXw k (hXn k hk).1) (Nat.le_of_eq hsp.symm)).weak (lo' := base) HI1.out.hb (fun _ _ _ h => h)
          have h3 := oneSub (d := cz) h2 (by omega) (hXf _ (by omega) (fun e => by have := (hv1 _ e).2; omega))
          rw [hW4, hsp] at h3
          exact h3
        have hP1 : NewB base Xs W4 fun u N => Sl N q3 is'.length (Ints u is') := by
          have h1 : NewB w.heap.size Xs Wk fun u N => Sl N q3 is'.length (Ints u is') := HP.out.2.2.2.2.weak (Nat.le_refl _) fun i h1 h2 h3 => hXf i (by simpa using h3) (fun e => by
            rcases HT1'.out with h | ⟨k, h, hk⟩
            · rw [h] at e; have := (HI.out.o.lt e).2; omega
            · rw [h] at e; injection e with e; omega)
          exact (h1.keep (W' := W4) (mono_ints is' q3) (fun k hk1 hk2 hk => by
            rw [hA4.block k (by omega), hXw k (hXn k hk).1, hC2.block k (by omega) (by omega) (by simp)]
            exact HC1'.out.block k (by exact hk2) (by omega) (fun e => by have := (HI.out.o.lt e).2; omega)) (by omega)).weak (by omega) (fun _ _ _ h => h)
        have hN4 : NewB base (fun i => (Value.slice qv1 (a.cat y).len cv1).ownBlock == some i) W4 fun u N => Sl N q3 is'.length (Ints u is') ∧ (Ls.sub z .nil).In u N (some ⟨w2.heap.size, 0, none⟩) :=
          (hP1.both hP2 (mono_ints is' q3) (mono_lsin _ _)).weak (Nat.le_refl _) (fun i _ _ h => by simpa using (hXn i h).2)
        have hO4 : OutL W4 base (.slice qv1 (a.cat y).len cv1) (a.cat y) := (HO1.out.keepx (w' := W4) (fun i h1 h2 h3 => by rw [hA4.block i (by omega), hXw i h3, hC2.block i (by omega) (by omega) (by simp)]) (by omega)).out
        obtain ⟨qv, cv, w5, hrun, hO5, hgr, hot⟩ := app_lfB (k := 2) (t := xt) (d1 := d3) (d2 := 1) hO4 (by omega) hN4 (by have := HI1.out.ha; have := cap6_le m1; omega) 23
        obtain ⟨W5, hW5⟩ : ∃ W5, W4.alloc (.cells #[.int .i64 2, .slice q3 is'.length d3, .bool xt, .slice (some ⟨w2.heap.size, 0, none⟩) 1 1] 47 (0, 0)) = W5 := ⟨_, rfl⟩
        have hA5 : Below W4.heap.size W4 W5 := by rw [← hW5]; exact (Below.refl _ W4).alloc (Nat.le_refl _) _
        have hgr5 : W5.grownBy w5 (Value.slice qv1 (a.cat y).len cv1).ownBlock := by rw [← hW5]; exact hgr
        have hC4 : Ch g v.ownBlock w W5 := ((HC1.out.trans hC2.none (.inl rfl)).below2 hBpw (by omega)).below2 ((hA4.mono (by omega)).trans (hA5.mono (by omega))) (by omega)
        have hC5 : Ch g v.ownBlock w w5 := hC4.trans (Ch.grown hgr5 (fun e => by have := (hv1 _ e).1; omega)) HT1.out
        have hr5 : RwS w5 g st mp m2 := hr2.later (((hBp.trans ((hA4.mono (by omega)).trans (hA5.mono (by omega)))).grown hgr5 (by have := hA5.size; omega) (fun k hk => (hv1 k hk).1))) hgb
        rw [hs4] at hrun
        have HRn := Lib.hid hrun
        have HE := Lib.hid (show askR st ls xi xt m (fun m => Ls.goFirst st (.sub l .nil) t b m) = some (y.cat (.node 2 is' xt (.sub z .nil) .nil), m2) by
          unfold askR Ls.goFirst; rw [HR.out]; unfold then2; dsimp only; rw [HR2.out, HIs.out])
        have HF5 := Lib.hid (show OutL w5 base (.slice qv ((a.cat y).len + 1) cv) (a.cat (y.cat (.node 2 is' xt (.sub z .nil) .nil))) ∧ RwS w5 g st mp m2 ∧ Ch g v.ownBlock w w5 ∧ OwnTo w v (.slice qv ((a.cat y).len + 1) cv) from
          ⟨by rw [← Lf.cat_assoc]; exact hO5, hr5, hC5, HT1.out.trans hot (by omega)⟩)
        clear hr5 hC5 hC4 hgr5 hA5 hgr hot hO5 hrun hO4 hN4 hP1 hP2 hv1 hXn hXf hXs hbs hgb hw12 hwk1 hwk hs4 hA4 hBpw hBp hsp hXw hW4 hW5 hO2 hr2 hC2 hbz hNz z3 z4 HRLc hzl hA2
        go_wp2_with (at_builtin; rw [HW4.out]; refine Lib.wpList_append_run _ rfl _ _ _ _ rfl _ _ rfl rfl _ _ HRn.out ?_)
        go_ret
        rw [HE.out]
        exact ⟨_, rfl, HF5.out⟩
end Go.Proofs.Ytcadeeldogknmaa
