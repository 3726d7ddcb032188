/- Deeds: each round by the same terms. -/
import Derived.Test.YtcadeeldogknmaaZH
import Derived.Test.YtcadeeldogknmaaVL
namespace Go.Proofs.Ytcadeeldogknmaa
open Go.RowKit

theorem app_lsB {base : Nat} {v : Value} {ds : Ls} {l : Lf} {W : World} {q : Option Addr} {d : Nat} (hO : OutLs W base v ds) (hbase : base ≤ W.heap.size) (hN : NewB base (fun i => v.ownBlock == some i) W fun u N => l.In u N q) (hl : ds.len ≤ 1073741824) (ty : Nat) :
    ∃ qv cv W3, (Builtin.append_ #[45, 45] ty #[v, .slice (some ⟨W.heap.size, 0, none⟩) 1 1]).run Try.prog (W.alloc (.cells #[.slice q l.len d] 23 (0, 0))) = .ok (.slice qv (ds.len + 1) cv) W3 ∧ OutLs W3 base (.slice qv (ds.len + 1) cv) (ds.cat (.sub l .nil)) ∧ (W.alloc (.cells #[.slice q l.len d] 23 (0, 0))).grownBy W3 v.ownBlock ∧ OwnTo W v (.slice qv (ds.len + 1) cv) := by
  obtain ⟨i0, hi, hz0, hz1, hz2⟩ := info_parts info_leaks
  obtain ⟨W2, hW2⟩ : ∃ W2, W2 = W.alloc (.cells #[.slice q l.len d] 23 (0, 0)) := ⟨_, rfl⟩
  have hn : W2.heap[W.heap.size]? = some (.cells #[.slice q l.len d] 23 (0, 0)) := by rw [hW2]; exact heap_alloc_new W _
  have hA : Below W.heap.size W W2 := by rw [hW2]; exact (Below.refl _ W).alloc (Nat.le_refl _) _
  have hs2 : W2.heap.size = W.heap.size + 1 := by rw [hW2]; simp
  have hO2 := hO.keep (w' := W2) (mono_ls ds) (fun i _ hl => hA.block i hl) hA.size
  obtain ⟨T, k2, k3⟩ := (hN.later (mono_lfin l q) hA)
  obtain ⟨news, S, h1, h2, h3, h4⟩ := hO2
  rw [← hW2]
  obtain ⟨v', W3, hr, g1, g2, g3⟩ := run_app (P := Try.prog) W2 base 45 ty 23 i0 (.slice none 0 0) 1 24 Try.underlying45 hi hz0 hz1 hz2 rfl (by decide) v ds.len news h1 (some ⟨W.heap.size, 0, none⟩) 1 1 [.slice q l.len d] ⟨rfl, .inr ⟨_, _, rfl, fun j u hu => by rw [Nat.zero_add]; exact cell_blk hn (by rw [← Array.getElem?_toList]; exact hu)⟩⟩ (by simp [Value.oneCell']) (by unfold maxLen; omega) (by omega) (by omega)
  have hOut := OutG.snoc (D := fun u N cs => (Ls.sub l .nil).Cells u N cs) (C' := fun u N cs => (ds.cat (.sub l .nil)).Cells u N cs) g1 g2 g3 h2 h3 h4 ⟨q, d, [], rfl, k2, rfl⟩ (fun i hi => ⟨(k3 i hi).1, (k3 i hi).2.1⟩) (fun g hg => by
    cases hT : T g with
    | false => rfl
    | true => have := (k3 g hT).2.2; rw [hg] at this; simp at this) (mono_ls ds) (mono_ls _) (fun u N a b ha hb => Ls.Cells.cat hb ds a ha)
  obtain ⟨qv, cv, rfl, _⟩ := hOut.form
  refine ⟨qv, cv, W3, hr, ?_, g2, by rcases g3 with g3 | g3; (· exact .inl g3); (· exact .inr ⟨_, g3, by omega⟩)⟩
  unfold OutLs
  rw [Ls.cat_len]
  exact hOut
theorem goEach_nil (st : Int) (t : Rc) (br : Bool) (m : Nat) : Ls.goEach st .nil t br m = some (.nil, m) := by rw [Ls.goEach]
/-- the rest of them, behind some -/
def eachR (cs : Ls) (R : Option (Ls × Nat)) : Option (Ls × Nat) :=
  match R with
  | none => none
  | some (c, m) => some (cs.cat c, m)
theorem each_none {st : Int} {l : Lf} {r cs : Ls} {t : Rc} {br : Bool} {m : Nat} (h : (if asMany t.len l.len (br && r.len == 0) = true then Lf.go st l t (br && r.len == 0) m else none) = none) : eachR cs (Ls.goEach st (.sub l r) t br m) = none := by
  rw [Ls.goEach, h]; rfl
theorem each_some {st : Int} {l z : Lf} {r cs : Ls} {t : Rc} {br : Bool} {m m2 : Nat} (h : (if asMany t.len l.len (br && r.len == 0) = true then Lf.go st l t (br && r.len == 0) m else none) = some (z, m2)) : eachR cs (Ls.goEach st (.sub l r) t br m) = eachR (cs.cat (.sub z .nil)) (Ls.goEach st r t br m2) := by
  rw [Ls.goEach, h]
  cases hr : Ls.goEach st r t br m2 with
  | none => simp only [hr, eachR]
  | some x => obtain ⟨x, m3⟩ := x; simp only [hr, eachR, Ls.cat_assoc, Ls.cat]
/-- the node as it is made -/
structure EX (W : World) (X : Nat) (sv : Value) : Prop where
  c0 : W.cell? ⟨X, 0, none⟩ = some (.int .i64 4)
  c1 : W.cell? ⟨X, 1, none⟩ = some (.slice none 0 0)
  c2 : W.cell? ⟨X, 2, none⟩ = some (.bool false)
  c3 : W.cell? ⟨X, 3, none⟩ = some sv
  fz : ∀ o, W.frozen? ⟨X, o, none⟩ = false
theorem EX.lt {W : World} {X : Nat} {sv : Value} (h : EX W X sv) : X < W.heap.size := World.block_lt_of_cell? _ _ h.c0
theorem EX.later {W W' : World} {X : Nat} {sv : Value} (h : EX W X sv) (hB : W'.heap[X]? = W.heap[X]?) : EX W' X sv := by
  have e : ∀ o, W'.cell? ⟨X, o, none⟩ = W.cell? ⟨X, o, none⟩ := fun o => by simp only [World.cell?, hB]
  exact ⟨(e 0).trans h.c0, (e 1).trans h.c1, (e 2).trans h.c2, (e 3).trans h.c3, fun o => (World.frozen?_of_block hB).trans (h.fz o)⟩
theorem EX.put3 {W : World} {X : Nat} {sv : Value} (h : EX W X sv) (u : Value) : EX (W.setCell ⟨X, 3, none⟩ u) X u :=
  ⟨(World.cell?_setCell_other _ _ _ _ (by simp)).trans h.c0, (World.cell?_setCell_other _ _ _ _ (by simp)).trans h.c1, (World.cell?_setCell_other _ _ _ _ (by simp)).trans h.c2, World.cell?_setCell_same _ _ _ h.c3, fun o => (World.frozen?_setCells X [u] 3 W ⟨X, o, none⟩).trans (h.fz o)⟩
set_option maxRecDepth 100000 in
set_option maxHeartbeats 6400000 in
theorem deed_each (n : Nat) (hRL : RL n) : DeedOk n 9 44 := by
  intro xk xi xt xs t ls bl subs b bt ot bn on g base mp m st a v w hwt hi hn
  by_cases hk : xk = 4
  · subst hk
    obtain ⟨p, p', q, c, c', d, gi, sz, hbl, hT⟩ := hn.tfix hi.hb hi.row
    obtain ⟨p1, q1, c1, d1, hX⟩ := xfix_of hn.hx hn.hbn hi.hb hi.row
    obtain ⟨sa, rfl, hfa⟩ := Rs.one (hn.fine.1.2.2.2.2.2.2.2 (.inr (.inr (.inr rfl)))) hn.fine.2.1
    obtain ⟨bq, oq, pt, ct, rfl, hA⟩ := first_rs (fun W hW => (hT W hW).s8) hi.hb hi.row
    obtain ⟨bx, ox, hpx, hAx⟩ := starts (fun W hW => (hX W hW).s3)
    have x0 := (hX w (Ch.refl _ _ _)).c0
    have hxl : xs.len ≤ 140737488355328 := (hX w (Ch.refl _ _ _)).s3.1
    have HE := Lib.hid (show oneR st 4 xi xt xs 9 t ls bl (.sub sa .nil) b m = (match Ls.goEach st xs sa b m with | none => none | some (c, m2) => some (.node 4 [] false c .nil, m2)) by
      simp [oneR, Rs.first]
      cases Ls.goEach st xs sa b m with
      | none => rfl
      | some x => rfl)
    have HI := Lib.hid (hi.less (W' := 1 + xs.wt) (by omega))
    have HT := Lib.hid (fun W (hW : Ch g none w W) => show W.cell? ⟨bt, ot + 8, none⟩ = some (.slice (some ⟨bq, oq, none⟩) 1 d) from (hT W hW.none).c8)
    have HX := Lib.hid (fun W (hW : Ch g none w W) => (hX W hW.none).c3)
    have HA := Lib.hid (fun W (hW : Ch g none w W) => hA W hW.none)
    have HAx := Lib.hid (fun W (hW : Ch g none w W) => hAx W hW.none)
    have Hp := Lib.hid hpx
    have HS := Lib.hid (And.intro hfa (And.intro hn.four hwt))
    have HRL := Lib.hid hRL
    have hbw : bn < w.heap.size := Nat.lt_of_lt_of_le hn.hbn hi.hb
    have x3 := (hX w (Ch.refl _ _ _)).c3
    clear hi hn hwt hX hT hA hAx hpx hbl hRL hfa
    obtain ⟨W1, hW1, kX, hB1, hz1⟩ : ∃ W, w.alloc (.cells #[.int .i64 4, .slice none 0 0, .bool false, .slice none 0 0] 47 (0, 0)) = W ∧ W.heap[w.heap.size]? = some (.cells #[.int .i64 4, .slice none 0 0, .bool false, .slice none 0 0] 47 (0, 0)) ∧ Below w.heap.size w W ∧ W.heap.size = w.heap.size + 1 :=
      ⟨_, rfl, heap_alloc_new w _, (Below.refl _ w).alloc (Nat.le_refl _) _, by simp⟩
    have HW1 := Lib.hid hW1
    have HEX0 := Lib.hid (show EX W1 w.heap.size (.slice none 0 0) from ⟨cell_blk kX rfl, cell_blk kX rfl, cell_blk kX rfl, cell_blk kX rfl, fun o => by simp [World.frozen?, kX]⟩)
    have HC0 := Lib.hid (Ch.of (g := g) none hB1)
    have HR0 := Lib.hid (HI.out.r.later hB1 HI.out.r.lt)
    have HL0 := Lib.hid (show OutLs W1 (w.heap.size + 1) (.slice none 0 0) .nil from OutG.nil _ _ _ _ _ rfl)
    clear hW1 kX hB1 hz1
    go_enter Try.func44, Try.ntmps44
    go_wp2_with fail
    refine (must_true w).mono ?_
    rintro e w1 ⟨rfl, rfl⟩
    go_wp2_with fail
    rw [HW1.out]
    clear HW1 x0
    generalize hXs : w.heap.size = X at HEX0 HL0 hbw ⊢
    have HXs := Lib.hid hXs
    have HG1 := Lib.hid (show g < w.heap.size by have := HI.out.hg; have := HI.out.hb; omega)
    have HG0 := Lib.hid (show g < X by have := HG1.out; omega)
    have HM0' := Lib.hid (HI.out.hW)
    clear hXs
    clear x3
    go_loopw [26] (fun i wr => ∃ (k : Nat) (rs cs : Ls) (m1 : Nat) (qx : Option Addr) (cx : Nat), i = .int .i64 k ∧ k + rs.len = xs.len ∧ Hid (cs.len = k) ∧ Hid (Ls.goEach st xs sa b m = eachR cs (Ls.goEach st rs sa b m1)) ∧ Hid (EX wr X (.slice qx k cx)) ∧ Hid (OutLs wr (X + 1) (.slice qx k cx) cs) ∧ Hid (RwS wr g st mp m1) ∧ Hid (Ch g none w wr) ∧ Hid (m ≤ m1 ∧ m1 + 2097152 * rs.wt ≤ m + 2097152 * xs.wt) ∧ Hid (∀ W, Ch g none w W → rs.len = 0 ∨ rs.At W base bx (ox + k)) ∧ Hid (rs.shaped = true ∧ rs.wt < n ∧ rs.wt ≤ xs.wt)) (fun i _ => xs.len - (intOf i).toNat)
    case atStart =>
      refine ⟨0, xs, .nil, m, none, 0, rfl, by simp, Lib.hid rfl, Lib.hid ?_, HEX0, HL0, HR0, HC0, Lib.hid ⟨Nat.le_refl _, Nat.le_refl _⟩, Lib.hid fun W hW => by simpa using HAx.out W hW, Lib.hid ⟨HS.out.2.1, HS.out.2.2, Nat.le_refl _⟩⟩
      unfold eachR
      cases Ls.goEach st xs sa b m with
      | none => rfl
      | some x => obtain ⟨x, m'⟩ := x; rfl
    case round =>
      clear HEX0 HC0 HR0 HL0
      obtain ⟨k, rs, cs, m1, qx, cx, rfl, hk, Hcs, hE, hEX, hLo, hRw, hC, HM0, hAt, hF⟩ := hrel
      obtain ⟨wi, rfl⟩ : ∃ wi : World, wi = wr := ⟨_, rfl⟩
      cases rs with
      | nil =>
        simp only [Ls.len, Nat.add_zero] at hk
        have hge : ¬ k < xs.len := by omega
        have HZ := Lib.hid (show Ls.goEach st xs sa b m = some (cs, m1) by rw [hE.out, goEach_nil]; simp [eachR, Ls.cat_nil])
        obtain ⟨qv0, cv0, hv, _⟩ := OutG.form HI.out.o
        subst hv
        have hk' : k = xs.len := hk
        obtain ⟨p9, c9, hv9, hN9⟩ := OutLs.in (w0 := w) hLo.out (by rw [Hcs.out]; omega) (by have := HXs.out; omega)
        obtain ⟨rfl, hkc, rfl⟩ : qx = p9 ∧ k = cs.len ∧ cx = c9 := by simpa using hv9
        have hbi : base ≤ wi.heap.size := Nat.le_trans HI.out.hb hC.out.size
        have hN1 : NewB base (fun i => (Value.slice qv0 a.len cv0).ownBlock == some i) wi fun u N => cs.In u N qx := hN9.toB HI.out.hb fun i h1 _ => by
          simp only [beq_eq_false_iff_ne, ne_eq]
          exact fun e => by have := (HI.out.o.lt e).2; omega
        have hN2 : NewB base (fun i => (Value.slice qv0 a.len cv0).ownBlock == some i) wi fun u N => Sl N none ([] : List Int).length (Ints u []) := ⟨fun _ => false, ⟨Nat.zero_le _, .inl rfl⟩, fun _ h => by cases h⟩
        have hOv : OutL wi base (.slice qv0 a.len cv0) a := HI.out.o.ch (mono_lf a) HI.out.hg hC.out
        obtain ⟨qv, cv, w5, hrun, hO5, hgr, hot⟩ := app_lfB (k := 4) (t := false) (d1 := 0) (d2 := cx) hOv hbi (hN2.both hN1 (mono_ints _ _) (mono_lsin _ _)) (by have := HI.out.ha; have := cap6_le m; omega) 23
        subst hkc
        simp only [List.length_nil] at hrun hgr
        have hA5 : Below wi.heap.size wi (wi.alloc (.cells #[.int .i64 4, .slice none 0 0, .bool false, .slice qx cs.len cx] 47 (0, 0))) := (Below.refl _ wi).alloc (Nat.le_refl _) _
        have hv1 : ∀ i, (Value.slice qv0 a.len cv0).ownBlock = some i → base ≤ i ∧ i < w.heap.size := fun i h => HI.out.o.lt h
        have hC5 : Ch g (Value.slice qv0 a.len cv0).ownBlock w w5 := (hC.out.none.below2 (hA5.mono hC.out.size) HG1.out).trans (Ch.grown hgr (fun e => by have := (hv1 _ e).1; have := HI.out.hg; omega)) (.inl rfl)
        have hr5 : RwS w5 g st mp m1 := hRw.out.later ((hA5.mono hbi).grown hgr (Nat.le_trans hbi hA5.size) (fun i h => (hv1 i h).1)) HI.out.hg
        have HRn := Lib.hid hrun
        have HF5 := Lib.hid (And.intro hO5 (And.intro hr5 (And.intro hC5 ((OwnTo.refl w _).trans hot hC.out.size))))
        have X0 := hEX.out.c0
        have X1 := hEX.out.c1
        have X2 := hEX.out.c2
        have X3 := hEX.out.c3
        rw [HZ.out] at HE
        clear hk hk' hv9 hN9 hbi hN1 hN2 hOv hrun hO5 hgr hot hA5 hv1 hC5 hr5 hE hEX hLo hRw hAt hF
        go_wp2_with (at_builtin; refine Lib.wpList_append_run _ rfl _ _ _ _ rfl _ _ rfl rfl _ _ HRn.out ?_)
        go_ret
        rw [HE.out]
        exact ⟨_, rfl, HF5.out⟩
      | sub l r =>
        simp only [Ls.len] at hk
        have hlt : k < xs.len := by omega
        obtain ⟨rfl, hbx⟩ := Hp.out (by omega)
        have hAn : ∀ W, Ch g none w W → (Ls.sub l r).At W base bx (ox + k) := fun W hW => by
          rcases hAt.out W hW with e | e
          · simp [Ls.len] at e
          · exact e
        have hd := (Below.refl wi.heap.size wi).drew
        have hCd : Ch g none wi wi.drew := Ch.of _ hd
        obtain ⟨pl, cl, hl⟩ := fix_sl (b := bx) (o := ox + k) (n := l.len) (A := fun W p => l.In W base p) hbx (Nat.le_trans HI.out.hb hC.out.size) (row := none) (fun _ h => by cases h) (fun W hW => (hAn W (hC.out.trans hW (.inl rfl))).1)
        have hW0 : (Ls.sub l r).wt = 1 + l.wt + r.wt := by rw [Ls.wt]
        have hwl : l.wt < n := by have := hF.out.2.1; rw [hW0] at this; omega
        have hsh1 : l.shaped = true ∧ r.shaped = true := by
          have := hF.out.1
          simpa only [Ls.shaped, Bool.and_eq_true] using this
        have HM1 := Lib.hid (show m ≤ m1 ∧ m1 + 2097152 * (1 + l.wt + r.wt) ≤ m + 2097152 * xs.wt by rw [← hW0]; exact HM0.out)
        have hIw : RwIn g base mp m1 st a v (1 + l.wt) wi := HI.out.next hRw.out (HI.out.o.ch (mono_lf a) HI.out.hg hC.out) hC.out.none (OwnTo.refl _ _) (by have := HI.out.hm; have := HM1.out; omega) (by have := HI.out.ha; have := HM1.out; have hcc : cap6 m ≤ cap6 m1 := (by unfold cap6; split <;> split <;> omega); have := hF.out.2.2; rw [hW0] at this; omega) (by have := hF.out.2.2; rw [hW0] at this; omega)
        have hIn := ((hIw.later hd).inner (W' := l.wt) (by omega))
        have HK := Lib.hid (HRL.out l hwl sa pt pl ct cl (b && r.len == 0) g wi.drew.heap.size mp m1 st .nil (.slice none 0 0) wi.drew hIn (fun W hW => mono_rcin sa pt _ _ _ _ (HA.out W (hC.out.trans (hCd.trans (show Ch g none wi.drew W from hW) (.inl rfl)) (.inl rfl))).2 (Le.refl _) (hIw.later hd).hb) (fun W hW => mono_lfin l pl _ _ _ _ (hl W (hCd.trans (show Ch g none wi.drew W from hW) (.inl rfl))).2 (Le.refl _) (hIw.later hd).hb) HS.out.1 hsh1.1)
        have HCd := Lib.hid (show Ch g (Value.slice none 0 0).ownBlock wi wi.drew from hCd)
        have HB := Lib.hid (rw_bnd (br := b && r.len == 0) (go_bnd st l sa (b && r.len == 0) m1 HS.out.1))
        have HWl := Lib.hid (show l.wt ≤ 1073741824 ∧ xs.wt ≤ 1073741824 by have h1 := HI.out.hW; have h2 := hF.out.2.2; rw [hW0] at h2; omega)
        have Hkx := Lib.hid (show k ≤ xs.wt by have := Ls.len_wt xs; omega)
        have HN := Lib.hid (show (∀ W, Ch g none w W → r.len = 0 ∨ r.At W base bx (ox + (k + 1))) ∧ r.shaped = true ∧ r.wt < n ∧ r.wt ≤ xs.wt from
          ⟨fun W hW => .inr (hAn W hW).2, hsh1.2, by have := hF.out.2.1; rw [hW0] at this; omega, by have := hF.out.2.2; rw [hW0] at this; omega⟩)
        have s0 := (hl wi (Ch.refl _ _ _)).1
        have r0 := (HA.out wi hC.out).1
        have t8 := HT.out wi hC.out
        have x3 := HX.out wi hC.out
        have HKp := Lib.hid (fun W (hW : Ch g none w W) (hXb : W.heap[X]? = wi.heap[X]?) => show W.cell? ⟨X, 3, none⟩ = some (.slice qx k cx) ∧ W.cell? ⟨bt, ot + 8, none⟩ = some (.slice (some ⟨bq, oq, none⟩) 1 d) ∧ W.cell? ⟨bn, on + 3, none⟩ = some (.slice (some ⟨bx, ox, none⟩) xs.len d1) ∧ W.cell? ⟨bq, oq, none⟩ = some (.slice pt sa.len ct) from ⟨(hEX.out.later hXb).c3, HT.out W hW, HX.out W hW, (HA.out W hW).1⟩)
        have HG := hE
        have Hk := Lib.hid hk
        replace HM0 := HM1
        clear hk hd hCd hAn hE hAt hF hsh1 hW0 hl hwl hIn hIw hRw HM1
        cases b with
        | false =>
          go_wp2_with fail
          refine bgk 25 (fun W => W.cell? ⟨X, 3, none⟩ = some (.slice qx k cx) ∧ W.cell? ⟨bt, ot + 8, none⟩ = some (.slice (some ⟨bq, oq, none⟩) 1 d) ∧ W.cell? ⟨bn, on + 3, none⟩ = some (.slice (some ⟨bx, ox, none⟩) xs.len d1) ∧ W.cell? ⟨bq, oq, none⟩ = some (.slice pt sa.len ct)) (⟨hEX.out.c3, t8, x3, r0⟩) (fun hHeld => ?_)
          refine tk0 0 ?_ rfl (.inl ⟨by rfl, ?_⟩) ?_
          rotate_left
          · (intro w hSw; (try dsimp only at hSw); go_simp; try with_reducible rfl)
          try simp only [Act.put, List.setIfInBounds_toArray, List.set_cons_zero, List.set_cons_succ]
          refine tkl 1 ?_ rfl (.inl ⟨by rfl, ?_⟩) ?_
          rotate_left
          · (intro w hSw; (try dsimp only at hSw); go_simp; try with_reducible rfl)
          try simp only [Act.put, List.setIfInBounds_toArray, List.set_cons_zero, List.set_cons_succ]
          refine tk0 2 ?_ rfl (.inl ⟨by rfl, ?_⟩) ?_
          rotate_left
          · (intro w hSw; (try dsimp only at hSw); go_simp; try with_reducible rfl)
          try simp only [Act.put, List.setIfInBounds_toArray, List.set_cons_zero, List.set_cons_succ]
          refine tk0 3 ?_ rfl (.inl ⟨by rfl, ?_⟩) ?_
          rotate_left
          · (intro w hSw; (try dsimp only at hSw); go_simp; try with_reducible rfl)
          try simp only [Act.put, List.setIfInBounds_toArray, List.set_cons_zero, List.set_cons_succ]
          refine tk0 4 ?_ rfl (.inl ⟨by rfl, ?_⟩) ?_
          rotate_left
          · (intro w hSw; (try dsimp only at hSw); go_simp; try with_reducible rfl)
          try simp only [Act.put, List.setIfInBounds_toArray, List.set_cons_zero, List.set_cons_succ]
          refine tk0 5 ?_ rfl (.inl ⟨by rfl, ?_⟩) ?_
          rotate_left
          · (intro w hSw; (try dsimp only at hSw); go_simp; try with_reducible rfl)
          try simp only [Act.put, List.setIfInBounds_toArray, List.set_cons_zero, List.set_cons_succ]
          refine tkl 6 ?_ rfl (.inl ⟨by rfl, ?_⟩) ?_
          rotate_left
          · (intro w hSw; (try dsimp only at hSw); go_simp; try with_reducible rfl)
          try simp only [Act.put, List.setIfInBounds_toArray, List.set_cons_zero, List.set_cons_succ]
          refine tk0 7 ?_ rfl (.inl ⟨by rfl, ?_⟩) ?_
          rotate_left
          · (intro w hSw; (try dsimp only at hSw); go_simp; try with_reducible rfl)
          try simp only [Act.put, List.setIfInBounds_toArray, List.set_cons_zero, List.set_cons_succ]
          refine tkl 8 ?_ rfl (.inl ⟨by rfl, ?_⟩) ?_
          rotate_left
          · (intro w hSw; (try dsimp only at hSw); go_simp; try with_reducible rfl)
          try simp only [Act.put, List.setIfInBounds_toArray, List.set_cons_zero, List.set_cons_succ]
          refine tk0 9 ?_ rfl (.inl ⟨by rfl, ?_⟩) ?_
          rotate_left
          · (intro w hSw; (try dsimp only at hSw); go_simp; try with_reducible rfl)
          try simp only [Act.put, List.setIfInBounds_toArray, List.set_cons_zero, List.set_cons_succ]
          refine tk0 10 ?_ rfl (.inl ⟨by rfl, ?_⟩) ?_
          rotate_left
          · (intro w hSw; (try dsimp only at hSw); go_simp; try with_reducible rfl)
          try simp only [Act.put, List.setIfInBounds_toArray, List.set_cons_zero, List.set_cons_succ]
          refine tk0 11 ?_ rfl (.inl ⟨by rfl, ?_⟩) ?_
          rotate_left
          · (intro w hSw; (try dsimp only at hSw); go_simp; try with_reducible rfl)
          try simp only [Act.put, List.setIfInBounds_toArray, List.set_cons_zero, List.set_cons_succ]
          refine tk0 12 undef rfl (.inr ⟨by rfl, rfl⟩) ?_
          try simp only [Act.put, List.setIfInBounds_toArray, List.set_cons_zero, List.set_cons_succ]
          refine tk0 13 undef rfl (.inr ⟨by rfl, rfl⟩) ?_
          try simp only [Act.put, List.setIfInBounds_toArray, List.set_cons_zero, List.set_cons_succ]
          refine tk0 14 undef rfl (.inr ⟨by rfl, rfl⟩) ?_
          try simp only [Act.put, List.setIfInBounds_toArray, List.set_cons_zero, List.set_cons_succ]
          refine tk0 15 undef rfl (.inr ⟨by rfl, rfl⟩) ?_
          try simp only [Act.put, List.setIfInBounds_toArray, List.set_cons_zero, List.set_cons_succ]
          refine tk0 16 undef rfl (.inr ⟨by rfl, rfl⟩) ?_
          try simp only [Act.put, List.setIfInBounds_toArray, List.set_cons_zero, List.set_cons_succ]
          refine tk0 17 undef rfl (.inr ⟨by rfl, rfl⟩) ?_
          try simp only [Act.put, List.setIfInBounds_toArray, List.set_cons_zero, List.set_cons_succ]
          refine tk0 18 undef rfl (.inr ⟨by rfl, rfl⟩) ?_
          try simp only [Act.put, List.setIfInBounds_toArray, List.set_cons_zero, List.set_cons_succ]
          refine tk0 19 undef rfl (.inr ⟨by rfl, rfl⟩) ?_
          try simp only [Act.put, List.setIfInBounds_toArray, List.set_cons_zero, List.set_cons_succ]
          refine tk0 20 ?_ rfl (.inl ⟨by rfl, ?_⟩) ?_
          rotate_left
          · (intro w hSw; (try dsimp only at hSw); go_simp; try with_reducible rfl)
          try simp only [Act.put, List.setIfInBounds_toArray, List.set_cons_zero, List.set_cons_succ]
          refine rdk 21 rfl (fun K hK => ?_)
          go_simp
          refine HK.out.mono ?_
          rintro e w2 hE2
          rcases (hE2.later HCd.out).steps with ⟨rfl, hR, hC2⟩ | ⟨qz, nz, cz, z, m2, rfl, hR, hO2, hr2, hC2, _⟩
          · refine ⟨rfl, ?_⟩
            rw [HE.out, show Ls.goEach st xs sa false m = none by rw [HG.out]; exact each_none hR]
            exact ⟨rfl, (hC.out.trans (show Ch g none wi w2 from hC2.out) (.inl rfl)).none⟩
          have hC2 : Ch g none wi w2 := hC2.out
          have hCw2 : Ch g none w w2 := hC.out.trans hC2 (.inl rfl)
          have hX2 : w2.heap[X]? = wi.heap[X]? := hC2.block X hEX.out.lt (by have := HG0.out; omega) (by simp)
          have hbz := HB.out z m2 hR.out
          have hzl : z.len ≤ 140737488355328 := by have := Lf.len_wt z; have := HWl.out; have := cap6_le m2; omega
          have hO2 : OutL w2 wi.heap.size (.slice qz nz cz) z := hO2.out
          obtain ⟨qz, cz, hqz, hNz⟩ := OutL.newB (l := z) hO2 hzl
          obtain ⟨rfl, rfl, rfl⟩ : _ = qz ∧ _ = z.len ∧ _ = cz := by simpa using hqz
          have hLs : OutLs w2 (X + 1) (.slice qx k cx) cs := (hLo.out).ch (mono_ls cs) (by have := HG0.out; omega) hC2
          have hown : ∀ i, (Value.slice qx k cx).ownBlock = some i → X + 1 ≤ i ∧ i < wi.heap.size := fun i h => hLo.out.lt h
          obtain ⟨qv, cv, w4, hrun, hO4, hgr, hot⟩ := app_lsB (d := cz) hLs (Nat.lt_of_lt_of_le hEX.out.lt hC2.size) (hNz.weak (lo' := X + 1) (Nat.succ_le_of_lt hEX.out.lt) (fun i h1 _ _ => by simp only [beq_eq_false_iff_ne, ne_eq]; exact fun e => by have := (hown i e).2; omega)) (by rw [Hcs.out]; have := HWl.out; have := Hkx.out; omega) 45
          rw [Hcs.out] at hrun hO4
          have hA3 : Below w2.heap.size w2 (w2.alloc (.cells #[.slice qz z.len cz] 23 (0, 0))) := (Below.refl _ w2).alloc (Nat.le_refl _) _
          have hX3 : (w2.alloc (.cells #[.slice qz z.len cz] 23 (0, 0))).heap[X]? = wi.heap[X]? := (hA3.block X (Nat.lt_of_lt_of_le hEX.out.lt hC2.size)).trans hX2
          have hCw3 : Ch g none w (w2.alloc (.cells #[.slice qz z.len cz] 23 (0, 0))) := hCw2.below2 (hA3.mono hCw2.size) HG1.out
          have hs3 : (w2.alloc (.cells #[.slice qz z.len cz] 23 (0, 0))).heap.size = w2.heap.size + 1 := by simp
          have hX4 : w4.heap[X]? = wi.heap[X]? := (hgr.block X (by have := hC2.size; have := hEX.out.lt; omega) (fun e => by have := (hown X e.symm).1; omega)).trans hX3
          have hCw4 : Ch g none w w4 := hCw3.below2 ((Below.refl w.heap.size _).grown hgr (by have := hCw2.size; omega) (fun i h => by have := (hown i h).1; have := HXs.out; omega)) HG1.out
          have hr4 : RwS w4 g st mp m2 := (hr2.out.later hA3 hr2.out.lt).later ((Below.refl (X + 1) _).grown hgr (by have := hC2.size; have := hEX.out.lt; omega) (fun i h => (hown i h).1)) (by have := HG0.out; omega)
          have HRn := Lib.hid hrun
          have HX4 := Lib.hid hX4
          have HCw4 := Lib.hid hCw4
          have HF4 := Lib.hid (And.intro hO4 (And.intro hr4 (And.intro hR.out hbz)))
          clear hrun hO4 hr4 hgr hot hs3 hown hLs hNz hO2 hzl hbz hE2 hqz
          refine hK.out _ _ ?_ (fun hHeld => ?_)
          · exact HKp.out _ hCw2 hX2
          clear hK K
          try simp only [Act.put, List.setIfInBounds_toArray, List.set_cons_zero, List.set_cons_succ]
          refine rdk 22 rfl (fun K hK => ?_)
          go_simp
          refine hK.out _ _ ?_ (fun hHeld => ?_)
          · exact HKp.out _ hCw3 hX3
          clear hCw2 hX2
          clear hK K
          try simp only [Act.put, List.setIfInBounds_toArray, List.set_cons_zero, List.set_cons_succ]
          refine rdk 23 rfl (fun K hK => ?_)
          clear hA3
          refine stepK_app _ _ _ rfl rfl rfl rfl HRn.out ?_
          refine hK.out _ _ ?_ (fun hHeld => ?_)
          · exact HKp.out _ HCw4.out HX4.out
          clear hK K
          try simp only [Act.put, List.setIfInBounds_toArray, List.set_cons_zero, List.set_cons_succ]
          refine tk0 24 ?_ rfl (.inl ⟨by rfl, ?_⟩) ?_
          rotate_left
          · (intro w hSw; (try dsimp only at hSw); go_simp; try with_reducible rfl)
          try simp only [Act.put, List.setIfInBounds_toArray, List.set_cons_zero, List.set_cons_succ]
          refine rdb 25 rfl (fun K hK => ?_)
          have hE4 := hEX.out.later HX4.out
          have f3 := hE4.fz 3
          have c3 := hE4.c3
          go_simp
          refine hK.out _ _ ?_
          have HEp := Lib.hid (hE4.put3 (.slice qv (k + 1) cv))
          have HLp := Lib.hid (show OutLs (w4.setCell ⟨X, 3, none⟩ (.slice qv (k + 1) cv)) (X + 1) (.slice qv (k + 1) cv) (cs.cat (.sub z .nil)) from HF4.out.1.keep (mono_ls _) (fun i hi _ => Below.heap_setCell _ _ _ _ (by show i ≠ X; omega)) (by simp [World.setCell]))
          have HRp := Lib.hid (show RwS (w4.setCell ⟨X, 3, none⟩ (.slice qv (k + 1) cv)) g st mp m2 from HF4.out.2.1.later ((Below.refl X w4).setCell (p := ⟨X, 3, none⟩) (Nat.le_refl X) _) HG0.out)
          have HCp := Lib.hid (show Ch g none w (w4.setCell ⟨X, 3, none⟩ (.slice qv (k + 1) cv)) from HCw4.out.below2 ((Below.refl w.heap.size w4).setCell (p := ⟨X, 3, none⟩) (Nat.le_of_eq HXs.out) _) HG1.out)
          clear f3 c3 hE4
          clear hK K
          try simp only [Act.put, List.setIfInBounds_toArray, List.set_cons_zero, List.set_cons_succ]
          refine dnk ?_ (by kernel_rfl) _
          have HE3 := Lib.hid (show Ls.goEach st xs sa false m = eachR (cs.cat (.sub z .nil)) (Ls.goEach st r sa false m2) by rw [HG.out]; exact each_some HF4.out.2.2.1)
          have HB3 := Lib.hid (show m ≤ m2 ∧ m2 + 2097152 * r.wt ≤ m + 2097152 * xs.wt by have := HF4.out.2.2.2; have := HM0.out; omega)
          clear HK HB HG hC HCd t8 x3 s0 r0 HKp hCw3 hX3
          go_wp2_with fail
          go_roundw
          case rel => exact ⟨k + 1, r, cs.cat (.sub z .nil), m2, qv, cv, by go_num, by have := Hk.out; omega, Lib.hid (by rw [Ls.cat_len, Hcs.out]; rfl), HE3, HEp, HLp, HRp, HCp, HB3, Lib.hid HN.out.1, Lib.hid HN.out.2⟩
          case measure => simp [intOf]; omega
        | true =>
          have Hq := Lib.hid (show (true && r.len == 0) = ((k : Int) == IntKind.i64.wrap ((xs.len : Int) - 1)) by
            have hw : IntKind.i64.wrap ((xs.len : Int) - 1) = (xs.len : Int) - 1 := by simp [IntKind.wrap, IntKind.bits, IntKind.signed]; omega
            rw [hw, Bool.true_and, Bool.eq_iff_iff, beq_iff_eq, beq_iff_eq]; have := Hk.out; omega)
          rw [Hq.out] at HK
          go_wp2_with fail
          refine bgk 25 (fun W => W.cell? ⟨X, 3, none⟩ = some (.slice qx k cx) ∧ W.cell? ⟨bt, ot + 8, none⟩ = some (.slice (some ⟨bq, oq, none⟩) 1 d) ∧ W.cell? ⟨bn, on + 3, none⟩ = some (.slice (some ⟨bx, ox, none⟩) xs.len d1) ∧ W.cell? ⟨bq, oq, none⟩ = some (.slice pt sa.len ct)) (⟨hEX.out.c3, t8, x3, r0⟩) (fun hHeld => ?_)
          refine tk0 0 ?_ rfl (.inl ⟨by rfl, ?_⟩) ?_
          rotate_left
          · (intro w hSw; (try dsimp only at hSw); go_simp; try with_reducible rfl)
          try simp only [Act.put, List.setIfInBounds_toArray, List.set_cons_zero, List.set_cons_succ]
          refine tkl 1 ?_ rfl (.inl ⟨by rfl, ?_⟩) ?_
          rotate_left
          · (intro w hSw; (try dsimp only at hSw); go_simp; try with_reducible rfl)
          try simp only [Act.put, List.setIfInBounds_toArray, List.set_cons_zero, List.set_cons_succ]
          refine tk0 2 ?_ rfl (.inl ⟨by rfl, ?_⟩) ?_
          rotate_left
          · (intro w hSw; (try dsimp only at hSw); go_simp; try with_reducible rfl)
          try simp only [Act.put, List.setIfInBounds_toArray, List.set_cons_zero, List.set_cons_succ]
          refine tk0 3 ?_ rfl (.inl ⟨by rfl, ?_⟩) ?_
          rotate_left
          · (intro w hSw; (try dsimp only at hSw); go_simp; try with_reducible rfl)
          try simp only [Act.put, List.setIfInBounds_toArray, List.set_cons_zero, List.set_cons_succ]
          refine tk0 4 ?_ rfl (.inl ⟨by rfl, ?_⟩) ?_
          rotate_left
          · (intro w hSw; (try dsimp only at hSw); go_simp; try with_reducible rfl)
          try simp only [Act.put, List.setIfInBounds_toArray, List.set_cons_zero, List.set_cons_succ]
          refine tk0 5 ?_ rfl (.inl ⟨by rfl, ?_⟩) ?_
          rotate_left
          · (intro w hSw; (try dsimp only at hSw); go_simp; try with_reducible rfl)
          try simp only [Act.put, List.setIfInBounds_toArray, List.set_cons_zero, List.set_cons_succ]
          refine tkl 6 ?_ rfl (.inl ⟨by rfl, ?_⟩) ?_
          rotate_left
          · (intro w hSw; (try dsimp only at hSw); go_simp; try with_reducible rfl)
          try simp only [Act.put, List.setIfInBounds_toArray, List.set_cons_zero, List.set_cons_succ]
          refine tk0 7 ?_ rfl (.inl ⟨by rfl, ?_⟩) ?_
          rotate_left
          · (intro w hSw; (try dsimp only at hSw); go_simp; try with_reducible rfl)
          try simp only [Act.put, List.setIfInBounds_toArray, List.set_cons_zero, List.set_cons_succ]
          refine tkl 8 ?_ rfl (.inl ⟨by rfl, ?_⟩) ?_
          rotate_left
          · (intro w hSw; (try dsimp only at hSw); go_simp; try with_reducible rfl)
          try simp only [Act.put, List.setIfInBounds_toArray, List.set_cons_zero, List.set_cons_succ]
          refine tk0 9 ?_ rfl (.inl ⟨by rfl, ?_⟩) ?_
          rotate_left
          · (intro w hSw; (try dsimp only at hSw); go_simp; try with_reducible rfl)
          try simp only [Act.put, List.setIfInBounds_toArray, List.set_cons_zero, List.set_cons_succ]
          refine tk0 10 ?_ rfl (.inl ⟨by rfl, ?_⟩) ?_
          rotate_left
          · (intro w hSw; (try dsimp only at hSw); go_simp; try with_reducible rfl)
          try simp only [Act.put, List.setIfInBounds_toArray, List.set_cons_zero, List.set_cons_succ]
          refine tk0 11 ?_ rfl (.inl ⟨by rfl, ?_⟩) ?_
          rotate_left
          · (intro w hSw; (try dsimp only at hSw); go_simp; try with_reducible rfl)
          try simp only [Act.put, List.setIfInBounds_toArray, List.set_cons_zero, List.set_cons_succ]
          refine tk0 12 ?_ rfl (.inl ⟨by rfl, ?_⟩) ?_
          rotate_left
          · (intro w hSw; (try dsimp only at hSw); go_simp; try with_reducible rfl)
          try simp only [Act.put, List.setIfInBounds_toArray, List.set_cons_zero, List.set_cons_succ]
          refine tk0 13 ?_ rfl (.inl ⟨by rfl, ?_⟩) ?_
          rotate_left
          · (intro w hSw; (try dsimp only at hSw); go_simp; try with_reducible rfl)
          try simp only [Act.put, List.setIfInBounds_toArray, List.set_cons_zero, List.set_cons_succ]
          refine tk0 14 ?_ rfl (.inl ⟨by rfl, ?_⟩) ?_
          rotate_left
          · (intro w hSw; (try dsimp only at hSw); go_simp; try with_reducible rfl)
          try simp only [Act.put, List.setIfInBounds_toArray, List.set_cons_zero, List.set_cons_succ]
          refine tk0 15 ?_ rfl (.inl ⟨by rfl, ?_⟩) ?_
          rotate_left
          · (intro w hSw; (try dsimp only at hSw); go_simp; try with_reducible rfl)
          try simp only [Act.put, List.setIfInBounds_toArray, List.set_cons_zero, List.set_cons_succ]
          refine tkl 16 ?_ rfl (.inl ⟨by rfl, ?_⟩) ?_
          rotate_left
          · (intro w hSw; (try dsimp only at hSw); go_simp; try with_reducible rfl)
          try simp only [Act.put, List.setIfInBounds_toArray, List.set_cons_zero, List.set_cons_succ]
          refine tk0 17 ?_ rfl (.inl ⟨by rfl, ?_⟩) ?_
          rotate_left
          · (intro w hSw; (try dsimp only at hSw); go_simp; try with_reducible rfl)
          try simp only [Act.put, List.setIfInBounds_toArray, List.set_cons_zero, List.set_cons_succ]
          refine tk0 18 ?_ rfl (.inl ⟨by rfl, ?_⟩) ?_
          rotate_left
          · (intro w hSw; (try dsimp only at hSw); go_simp; try with_reducible rfl)
          try simp only [Act.put, List.setIfInBounds_toArray, List.set_cons_zero, List.set_cons_succ]
          refine tk0 19 ?_ rfl (.inl ⟨by rfl, ?_⟩) ?_
          rotate_left
          · (intro w hSw; (try dsimp only at hSw); go_simp; try with_reducible rfl)
          try simp only [Act.put, List.setIfInBounds_toArray, List.set_cons_zero, List.set_cons_succ]
          refine tk0 20 ?_ rfl (.inl ⟨by rfl, ?_⟩) ?_
          rotate_left
          · (intro w hSw; (try dsimp only at hSw); go_simp; try with_reducible rfl)
          try simp only [Act.put, List.setIfInBounds_toArray, List.set_cons_zero, List.set_cons_succ]
          refine rdk 21 rfl (fun K hK => ?_)
          go_simp
          refine HK.out.mono ?_
          rintro e w2 hE2
          rw [← Hq.out] at hE2
          rcases (hE2.later HCd.out).steps with ⟨rfl, hR, hC2⟩ | ⟨qz, nz, cz, z, m2, rfl, hR, hO2, hr2, hC2, _⟩
          · refine ⟨rfl, ?_⟩
            rw [HE.out, show Ls.goEach st xs sa true m = none by rw [HG.out]; exact each_none hR]
            exact ⟨rfl, (hC.out.trans (show Ch g none wi w2 from hC2.out) (.inl rfl)).none⟩
          have hC2 : Ch g none wi w2 := hC2.out
          have hCw2 : Ch g none w w2 := hC.out.trans hC2 (.inl rfl)
          have hX2 : w2.heap[X]? = wi.heap[X]? := hC2.block X hEX.out.lt (by have := HG0.out; omega) (by simp)
          have hbz := HB.out z m2 hR.out
          have hzl : z.len ≤ 140737488355328 := by have := Lf.len_wt z; have := HWl.out; have := cap6_le m2; omega
          have hO2 : OutL w2 wi.heap.size (.slice qz nz cz) z := hO2.out
          obtain ⟨qz, cz, hqz, hNz⟩ := OutL.newB (l := z) hO2 hzl
          obtain ⟨rfl, rfl, rfl⟩ : _ = qz ∧ _ = z.len ∧ _ = cz := by simpa using hqz
          have hLs : OutLs w2 (X + 1) (.slice qx k cx) cs := (hLo.out).ch (mono_ls cs) (by have := HG0.out; omega) hC2
          have hown : ∀ i, (Value.slice qx k cx).ownBlock = some i → X + 1 ≤ i ∧ i < wi.heap.size := fun i h => hLo.out.lt h
          obtain ⟨qv, cv, w4, hrun, hO4, hgr, hot⟩ := app_lsB (d := cz) hLs (Nat.lt_of_lt_of_le hEX.out.lt hC2.size) (hNz.weak (lo' := X + 1) (Nat.succ_le_of_lt hEX.out.lt) (fun i h1 _ _ => by simp only [beq_eq_false_iff_ne, ne_eq]; exact fun e => by have := (hown i e).2; omega)) (by rw [Hcs.out]; have := HWl.out; have := Hkx.out; omega) 45
          rw [Hcs.out] at hrun hO4
          have hA3 : Below w2.heap.size w2 (w2.alloc (.cells #[.slice qz z.len cz] 23 (0, 0))) := (Below.refl _ w2).alloc (Nat.le_refl _) _
          have hX3 : (w2.alloc (.cells #[.slice qz z.len cz] 23 (0, 0))).heap[X]? = wi.heap[X]? := (hA3.block X (Nat.lt_of_lt_of_le hEX.out.lt hC2.size)).trans hX2
          have hCw3 : Ch g none w (w2.alloc (.cells #[.slice qz z.len cz] 23 (0, 0))) := hCw2.below2 (hA3.mono hCw2.size) HG1.out
          have hs3 : (w2.alloc (.cells #[.slice qz z.len cz] 23 (0, 0))).heap.size = w2.heap.size + 1 := by simp
          have hX4 : w4.heap[X]? = wi.heap[X]? := (hgr.block X (by have := hC2.size; have := hEX.out.lt; omega) (fun e => by have := (hown X e.symm).1; omega)).trans hX3
          have hCw4 : Ch g none w w4 := hCw3.below2 ((Below.refl w.heap.size _).grown hgr (by have := hCw2.size; omega) (fun i h => by have := (hown i h).1; have := HXs.out; omega)) HG1.out
          have hr4 : RwS w4 g st mp m2 := (hr2.out.later hA3 hr2.out.lt).later ((Below.refl (X + 1) _).grown hgr (by have := hC2.size; have := hEX.out.lt; omega) (fun i h => (hown i h).1)) (by have := HG0.out; omega)
          have HRn := Lib.hid hrun
          have HX4 := Lib.hid hX4
          have HCw4 := Lib.hid hCw4
          have HF4 := Lib.hid (And.intro hO4 (And.intro hr4 (And.intro hR.out hbz)))
          clear hrun hO4 hr4 hgr hot hs3 hown hLs hNz hO2 hzl hbz hE2 hqz
          refine hK.out _ _ ?_ (fun hHeld => ?_)
          · exact HKp.out _ hCw2 hX2
          clear hK K
          try simp only [Act.put, List.setIfInBounds_toArray, List.set_cons_zero, List.set_cons_succ]
          refine rdk 22 rfl (fun K hK => ?_)
          go_simp
          refine hK.out _ _ ?_ (fun hHeld => ?_)
          · exact HKp.out _ hCw3 hX3
          clear hCw2 hX2
          clear hK K
          try simp only [Act.put, List.setIfInBounds_toArray, List.set_cons_zero, List.set_cons_succ]
          refine rdk 23 rfl (fun K hK => ?_)
          clear hA3
          refine stepK_app _ _ _ rfl rfl rfl rfl HRn.out ?_
          refine hK.out _ _ ?_ (fun hHeld => ?_)
          · exact HKp.out _ HCw4.out HX4.out
          clear hK K
          try simp only [Act.put, List.setIfInBounds_toArray, List.set_cons_zero, List.set_cons_succ]
          refine tk0 24 ?_ rfl (.inl ⟨by rfl, ?_⟩) ?_
          rotate_left
          · (intro w hSw; (try dsimp only at hSw); go_simp; try with_reducible rfl)
          try simp only [Act.put, List.setIfInBounds_toArray, List.set_cons_zero, List.set_cons_succ]
          refine rdb 25 rfl (fun K hK => ?_)
          have hE4 := hEX.out.later HX4.out
          have f3 := hE4.fz 3
          have c3 := hE4.c3
          go_simp
          refine hK.out _ _ ?_
          have HEp := Lib.hid (hE4.put3 (.slice qv (k + 1) cv))
          have HLp := Lib.hid (show OutLs (w4.setCell ⟨X, 3, none⟩ (.slice qv (k + 1) cv)) (X + 1) (.slice qv (k + 1) cv) (cs.cat (.sub z .nil)) from HF4.out.1.keep (mono_ls _) (fun i hi _ => Below.heap_setCell _ _ _ _ (by show i ≠ X; omega)) (by simp [World.setCell]))
          have HRp := Lib.hid (show RwS (w4.setCell ⟨X, 3, none⟩ (.slice qv (k + 1) cv)) g st mp m2 from HF4.out.2.1.later ((Below.refl X w4).setCell (p := ⟨X, 3, none⟩) (Nat.le_refl X) _) HG0.out)
          have HCp := Lib.hid (show Ch g none w (w4.setCell ⟨X, 3, none⟩ (.slice qv (k + 1) cv)) from HCw4.out.below2 ((Below.refl w.heap.size w4).setCell (p := ⟨X, 3, none⟩) (Nat.le_of_eq HXs.out) _) HG1.out)
          clear f3 c3 hE4
          clear hK K
          try simp only [Act.put, List.setIfInBounds_toArray, List.set_cons_zero, List.set_cons_succ]
          refine dnk ?_ (by kernel_rfl) _
          have HE3 := Lib.hid (show Ls.goEach st xs sa true m = eachR (cs.cat (.sub z .nil)) (Ls.goEach st r sa true m2) by rw [HG.out]; exact each_some HF4.out.2.2.1)
          have HB3 := Lib.hid (show m ≤ m2 ∧ m2 + 2097152 * r.wt ≤ m + 2097152 * xs.wt by have := HF4.out.2.2.2; have := HM0.out; omega)
          clear HK HB HG hC HCd t8 x3 s0 r0 HKp hCw3 hX3
          go_wp2_with fail
          go_roundw
          case rel => exact ⟨k + 1, r, cs.cat (.sub z .nil), m2, qv, cv, by go_num, by have := Hk.out; omega, Lib.hid (by rw [Ls.cat_len, Hcs.out]; rfl), HE3, HEp, HLp, HRp, HCp, HB3, Lib.hid HN.out.1, Lib.hid HN.out.2⟩
          case measure => simp [intOf]; omega
  · have hk2 : (xk == 4) = false := by simpa using hk
    have HE := Lib.hid (show oneR st xk xi xt xs 9 t ls bl subs b m = none by simp [oneR, hk])
    obtain ⟨p1, q1, c1, d1, hX⟩ := xfix_of hn.hx hn.hbn hi.hb hi.row
    have x0 := (hX w (Ch.refl _ _ _)).c0
    clear hi hn hX
    go_enter Try.func44, Try.ntmps44
    go_wp2_with fail
    refine (must_false w).mono ?_
    rintro e w1 ⟨rfl, rfl⟩
    refine ⟨rfl, ?_⟩
    rw [HE.out]
    exact ⟨rfl, Ch.refl _ _ _⟩
end Go.Proofs.Ytcadeeldogknmaa
