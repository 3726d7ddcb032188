/- The lines of any statements, shown one by one: the closure that calls itself. -/
import Derived.Test.YtkjhofnkgcjcoaaDoorP14
import Derived.Test.YtkjhofnkgcjcoaaDoorP20
import Derived.Test.YtkjhofnkgcjcoaaDoorP23
import Derived.Test.YtkjhofnkgcjcoaaDoorP27
import Derived.Deep.RegionHeld
import Derived.WalkMore
import Derived.Deep.CutBlock
import Derived.Deep.CutRange
namespace Go.Proofs.YtkjhofnkgcjcoaaDoor
open Go.RowKit
attribute [local go_sem] Oper.semAt_some

theorem hasBlock_any (k : Int) (w : World) : Calls Tryd.prog 76 #[.int .i64 k] w fun e w' => e = .returned (.bool (decide (k = 3 ∨ k = 4 ∨ k = 5))) ∧ w = w' := by
  by_cases h3 : k = 3
  · subst h3
    go_enter Tryd.func76, Tryd.ntmps76
    go_wp2_with fail
    go_ret
    exact ⟨rfl, rfl⟩
  · by_cases h4 : k = 4
    · subst h4
      go_enter Tryd.func76, Tryd.ntmps76
      go_wp2_with fail
      go_ret
      exact ⟨rfl, rfl⟩
    · by_cases h5 : k = 5
      · subst h5
        go_enter Tryd.func76, Tryd.ntmps76
        go_wp2_with fail
        go_ret
        exact ⟨rfl, rfl⟩
      · go_enter Tryd.func76, Tryd.ntmps76
        go_wp2_with fail
        go_ret
        exact ⟨by simp [h3, h4, h5], rfl⟩

theorem Sts.lines_toL : ∀ (l : Sts) (t : Nat), l.lines t = l.toL.flatMap (fun x => x.lines t)
  | .nil, _ => rfl
  | .cons x r, t => by simp only [Sts.lines, Sts.toL, List.flatMap_cons, Sts.lines_toL r t]
theorem Sts.may_toL : ∀ l : Sts, l.may = l.toL.all St.may
  | .nil => rfl
  | .cons x r => by simp only [Sts.may, Sts.toL, List.all_cons, Sts.may_toL r]
theorem Sts.deep_toL : ∀ (l : Sts), ∀ x ∈ l.toL, x.deep ≤ l.deep
  | .nil, _, h => by cases h
  | .cons y r, x, h => by
    simp only [Sts.toL, List.mem_cons] at h
    simp only [Sts.deep]
    rcases h with rfl | h
    · omega
    · have := Sts.deep_toL r x h; omega

theorem St.first_mem : ∀ (x : St) (t : Nat), (t, x.first) ∈ x.lines t
  | .mk _ _ _ _ _ _ _ _ _ _, _ => by rw [St.lines]; exact List.mem_cons_self
theorem Seg.head' {L : List (Nat × List UInt8)} {d t : Nat} {x : St} (h : Seg L d (x.lines t)) : L[d]? = some (t, x.first) := by
  obtain ⟨kd, nm, ns, e, a, g, lo, hi, bd, el⟩ := x
  rw [St.lines] at h
  exact h.head
/-- what the closures of a loop over lines hold -/
structure ShC (l qy qt qs m : Nat) (A : World) : Prop where
  ky : A.heap[qy]? = some (.cells #[.func (.yield l) #[] #[]] 94 (0, 0))
  kt : A.heap[qt]? = some (.cells #[.map (some m)] 58 (0, 0))
  ks : A.heap[qs]? = some (.cells #[.func (.func 74) #[] #[.pointer (some ⟨qy, 0, none⟩), .pointer (some ⟨qt, 0, none⟩), .pointer (some ⟨qs, 0, none⟩)]] 132 (0, 0))
  km : A.heap[m]? = some (fmap signT)
/-- each cell of the one is the other's -/
def LeW (w w' : World) : Prop := ∀ b o v, w.cell? ⟨b, o, none⟩ = some v → w'.cell? ⟨b, o, none⟩ = some v
theorem Sl.leq {N M : Nat} {p : Option Addr} {n : Nat} {A B : Nat → Nat → Prop} (h : Sl N p n A) (hN : N ≤ M) (hAB : ∀ b o, A b o → B b o) : Sl M p n B := Sl.imp h hN fun b o _ => hAB b o
mutual
theorem Ex.At.leq {w w' : World} {N : Nat} (hw : LeW w w') : ∀ (x : Ex) (b o : Nat), Ex.At w N x b o → Ex.At w' N x b o
  | .mk _op _wd _nm a, _b, _o, ⟨⟨h0, h1, h2, h3⟩, ⟨p, c, h4, s4⟩⟩ => ⟨⟨hw _ _ _ h0, hw _ _ _ h1, hw _ _ _ h2, h3⟩, ⟨p, c, hw _ _ _ h4, s4.leq (Nat.le_refl _) fun b' o' ha => Exs.At.leq hw a b' o' ha⟩⟩
theorem Exs.At.leq {w w' : World} {N : Nat} (hw : LeW w w') : ∀ (l : Exs) (b o : Nat), Exs.At w N l b o → Exs.At w' N l b o
  | .nil, _, _, _ => trivial
  | .cons x r, b, o, h => ⟨Ex.At.leq hw x b o h.1, Exs.At.leq hw r b (o + 4) h.2⟩
end
mutual
theorem St.At.leq {w w' : World} {N : Nat} (hw : LeW w w') : ∀ (x : St) (b o : Nat), St.At w N x b o → St.At w' N x b o
  | .mk kd nm ns e a as' lo hi bd el, b, o, h => by
    obtain ⟨⟨h0, h1, h2, h3, h4, h5⟩, ⟨p1, c1, g1, s1⟩, he, ha, ⟨p2, c2, g2, s2⟩, ⟨p3, c3, g3, s3⟩, ⟨p4, c4, g4, s4⟩⟩ := h
    exact ⟨⟨hw _ _ _ h0, hw _ _ _ h1, hw _ _ _ h2, hw _ _ _ h3, h4, h5⟩,
      ⟨p1, c1, hw _ _ _ g1, s1.1, s1.2.leq (Nat.le_refl _) fun b' o' => Row.imp (fun x o => hw _ _ _) _ _⟩, Ex.At.leq hw e b _ he, Ex.At.leq hw a b _ ha,
      ⟨p2, c2, hw _ _ _ g2, s2.leq (Nat.le_refl _) fun b' o' ha' => Exs.At.leq hw as' b' o' ha'⟩,
      ⟨p3, c3, hw _ _ _ g3, s3.leq (Nat.le_refl _) fun b' o' ha' => Sts.At.leq hw bd b' o' ha'⟩,
      ⟨p4, c4, hw _ _ _ g4, s4.leq (Nat.le_refl _) fun b' o' ha' => Sts.At.leq hw el b' o' ha'⟩⟩
theorem Sts.At.leq {w w' : World} {N : Nat} (hw : LeW w w') : ∀ (l : Sts) (b o : Nat), Sts.At w N l b o → Sts.At w' N l b o
  | .nil, _, _, _ => trivial
  | .cons x r, b, o, h => ⟨St.At.leq hw x b o h.1, Sts.At.leq hw r b (o + 16) h.2⟩
end
/-- a yield that is handed the lines L -/
structure ShEnv (ph : World → World) (l M N qy qt qs m : Nat) (w0 : World) (L : List (Nat × List UInt8)) (J Jx : Nat → World → Prop) : Prop where
  gl : ∀ k A, J k A → Glob A
  lf : ∀ A, LeW (ph A) A
  zf : ∀ A, (ph A).heap.size = A.heap.size
  mv : ∀ k A B, J k A → Rn N A B → J k B
  bel : ∀ k A, J k A → Below w0.heap.size w0 (ph A)
  hn : ∀ k A, J k A → N ≤ A.heap.size
  cl : ∀ k A, J k A → ShC l qy qt qs m A
  yl : ∀ k x W1, L[k]? = some x → J k W1 → YieldAt Fence.wide M Tryd.prog l (encL x) W1 fun e W' => ∃ v, e = .returned (.bool v) ∧ JJ J Jx v (k + 1) W'
/-- what the showing of lines leaves -/
def Shown (J Jx : Nat → World → Prop) (L : List (Nat × List UInt8)) (d : Nat) (v : Bool) (W : World) : Prop := (v = true ∧ J d W) ∨ (v = false ∧ ∃ k, k ≤ L.length ∧ Jx k W)
def ShN (qy qt qs : Nat) (w0 : World) (L : List (Nat × List UInt8)) (J Jx : Nat → World → Prop) (n : Nat) : Prop :=
  ∀ (ls : Sts), ls.size < n → ∀ (t d : Nat) (p : Option Addr) (c : Nat) (w : World), ls.may = true → t + ls.deep ≤ 1000 → (∀ y ∈ ls.lines t, y.2.length ≤ 1000000) → ls.In w0 w0.heap.size p → Seg L d (ls.lines t) → J d w →
    Calls Tryd.prog 74 #[.slice p ls.len c, .int .i64 (t : Int), .pointer (some ⟨qy, 0, none⟩), .pointer (some ⟨qt, 0, none⟩), .pointer (some ⟨qs, 0, none⟩)] w fun e w' => ∃ v, e = .returned (.bool v) ∧ Shown J Jx L (d + (ls.lines t).length) v w'

set_option maxRecDepth 100000 in
set_option maxHeartbeats 6400000 in
theorem shn_step {ph : World → World} {l M N qy qt qs m : Nat} {w0 : World} {L : List (Nat × List UInt8)} {J Jx : Nat → World → Prop} (E : ShEnv ph l M N qy qt qs m w0 L J Jx) (n : Nat) (ih : ShN qy qt qs w0 L J Jx n) : ShN qy qt qs w0 L J Jx (n + 1) := by
  intro ls hsz t d p c w hmay hdeep hlen hin hseg hj
  have hls : ∀ x ∈ ls.toL, x.size < n ∧ x.may = true ∧ t + x.deep ≤ 1000 := fun x hx => by
    have h1 := Sts.toL_size hx
    have h2 := Sts.deep_toL ls x hx
    rw [Sts.may_toL] at hmay
    exact ⟨by omega, List.all_eq_true.1 hmay x hx, by omega⟩
  replace hin := Sts.rowIn hin
  rw [Sts.lines_toL] at hlen hseg ⊢
  rw [Sts.toL_len]
  generalize ls.toL = xs at hin hls hlen hseg ⊢
  have HLS := Lib.hid hls
  have S1 := Lib.hid hin
  have hm1 := hin.1
  have HSeg := Lib.hid hseg
  have HLen := Lib.hid hlen
  have HJ := Lib.hid hj
  have HE := Lib.hid E
  have IH := Lib.hid ih
  clear hin hls hlen hseg hj E ih hmay hdeep hsz
  obtain ⟨tot, htot⟩ : ∃ k, k = d + (xs.flatMap (fun x => x.lines t)).length := ⟨_, rfl⟩
  rw [← htot]
  have HTot := Lib.hid htot
  clear htot
  go_enter Tryd.func74, Tryd.ntmps74
  go_wp2_with fail
  go_loopw [12] (fun i wr => ∃ (k e : Nat) (r : List St), i = .int .i64 k ∧ k + r.length = xs.length ∧ Hid (∀ x ∈ r, x ∈ xs) ∧ Hid (∀ b o, p = some ⟨b, o, none⟩ → Row (St.At w0 w0.heap.size) 16 xs b o → Row (St.At w0 w0.heap.size) 16 r b (o + k * 16)) ∧ Hid (Seg L e (r.flatMap (fun x => x.lines t)) ∧ e + (r.flatMap (fun x => x.lines t)).length = tot ∧ ∀ y ∈ r.flatMap (fun x => x.lines t), y.2.length ≤ 1000000) ∧ Hid (J e wr)) (fun i _ => xs.length - (intOf i).toNat)
  case atStart => exact ⟨0, d, xs, rfl, by omega, Lib.hid fun x h => h, Lib.hid fun b o _ h => by rw [Nat.zero_mul]; exact h, Lib.hid ⟨HSeg.out, HTot.out.symm, HLen.out⟩, HJ⟩
  case round =>
    obtain ⟨k, e, r, rfl, hk, hmem, hat, hS, hJ⟩ := hrel
    cases r with
    | nil =>
      simp only [List.length_nil] at hk
      have hge : ¬ k < xs.length := by omega
      go_wp2_with fail
      go_ret
      have he : e = tot := by have := hS.out.2.1; simpa using this
      subst he
      exact ⟨true, rfl, .inl ⟨rfl, hJ.out⟩⟩
    | cons x r =>
      simp only [List.length_cons] at hk
      have hlt : k < xs.length := by omega
      rcases S1.out.2 with h30 | ⟨b, o, rfl, hb, ha⟩
      · omega
      obtain ⟨hx, hr⟩ := hat.out b o rfl ha
      obtain ⟨hsx, hmx, hdx⟩ := HLS.out x (hmem.out x (by simp))
      have HR := Lib.hid hr
      obtain ⟨hsg, hto, hll⟩ := hS.out
      rw [List.flatMap_cons] at hsg hto hll
      obtain ⟨kd, nm, ns, ee, aa, g, lo, hi, bd, el⟩ := x
      have HX := Lib.hid hx
      have HJ0 := Lib.hid hJ.out
      have HBl := Lib.hid (fun k A (h : J k A) (o : Nat) (v : Value) (hv : w0.cell? ⟨b, o, none⟩ = some v) => (show A.cell? ⟨b, o, none⟩ = some v from HE.out.lf A _ _ _ (((HE.out.bel k A h).cell (p := ⟨b, o, none⟩) hb).trans hv)))
      have hbw : b < wr.heap.size := Nat.lt_of_lt_of_le hb (by have h1 := (HE.out.bel _ _ hJ.out).size; rw [HE.out.zf] at h1; exact h1)
      have y1 : wr.cell? ⟨qy, 0, none⟩ = some (.func (.yield l) #[] #[]) := cell_of_one (HE.out.cl _ _ hJ.out).ky
      have y2 : wr.cell? ⟨qt, 0, none⟩ = some (.map (some m)) := cell_of_one (HE.out.cl _ _ hJ.out).kt
      have HFi := Lib.hid (first_any _ hmx b (o + k * 16) m wr.drew hbw (St.At.later (Below.refl wr.heap.size wr).drew (Nat.le_refl _) _ b _ hbw (St.At.leq (HE.out.lf wr) _ b _ (by have h1 := St.At.later (HE.out.bel _ _ hJ.out) (HE.out.bel _ _ hJ.out).size _ b _ hb hx; rw [HE.out.zf] at h1; exact h1))) (HE.out.cl _ _ hJ.out).km ((HE.out.gl _ _ hJ.out).later (Below.refl wr.heap.size wr).drew) (hll _ (List.mem_append_left _ (St.first_mem _ t))))
      clear hx hr ha hat hJ hS
      go_wp2_with fail
      go_cut [24] from 18 to 23 (fun s24 wx => ∃ v, s24 = .bool (!v) ∧ Hid (JJ J Jx v (e + 1) wx))
      case first =>
        refine (wpIn_wide (n := M + 1)).1 ?_
        have HG := Lib.hid hsg.left.head'
        have HJd := Lib.hid (HE.out.mv e wr wr.drew HJ0.out ⟨(Below.refl _ wr).drew, fun _ _ h _ => h⟩)
        gi_region_with (first
          | (refine ⟨trivial, ?_⟩; gi_at_call 75; refine (callsIn_wide.2 HFi.out).mono ?_; rintro z w2 ⟨rfl, hB2⟩; have y1 := (hB2.cell (p := ⟨qy, 0, none⟩) (lt_of_block (HE.out.cl _ _ HJ0.out).ky)).trans y1; obtain ⟨fn, tmps, assign, body, hy, hR⟩ := HE.out.yl _ _ w2 HG.out (HE.out.mv _ _ _ HJd.out (Rn.of_below hB2 (HE.out.hn _ _ HJd.out))); rw [encL] at hy)
          | (refine hR.mono ?_; rintro z w3 ⟨v, rfl, hj⟩))
        all_goals (gi_wp2_with fail; go_meet; exact ⟨v, rfl, Lib.hid hj⟩)
      case rest =>
        obtain ⟨v, rfl, hj⟩ := hcut
        have hel := hsg.left.len
        have he1 : e + 1 ≤ L.length := by have := hel; simp only [St.lines, List.length_cons] at this; omega
        clear y1 y2 HFi HJ0 hbw
        rcases hj.out with ⟨rfl, hj1⟩ | ⟨rfl, hj1⟩
        rotate_left
        · have HX1 := Lib.hid hj1
          clear hj1 hj
          go_wp2_with fail
          go_ret
          exact ⟨false, rfl, .inr ⟨rfl, e + 1, he1, HX1.out⟩⟩
        have HJ1 := Lib.hid hj1
        clear hj1 hj
        obtain ⟨x0, _, _, _, _, _, _, _, _, _, ⟨pb, cb, xb, sb⟩, ⟨pl, cl, xl, sl⟩⟩ := HX.out.parts
        have hB1 := HBl.out _ _ HJ1.out
        have z0 := hB1 _ _ x0
        have hbm := may_block hmx
        obtain ⟨bk, hbk⟩ : ∃ bk, decide (kd = 3 ∨ kd = 4 ∨ kd = 5) = bk := ⟨_, rfl⟩
        have HHb := Lib.hid (hasBlock_any kd wc)
        rw [hbk] at HHb
        go_wp2_with fail
        refine HHb.out.mono ?_
        rintro z w2 ⟨rfl, rfl⟩
        clear HHb z0
        cases bk with
        | false =>
          have hno : ¬ (kd = 3 ∨ kd = 4 ∨ kd = 5) := by simpa using hbk
          rw [St.lines, if_neg hno] at hsg hto hll
          have hs2 := hsg.right
          simp only [List.length_cons, List.length_nil, List.length_append] at hs2 hto
          have HS2 := Lib.hid (show Seg L (e + 1) (r.flatMap (fun x => x.lines t)) ∧ e + 1 + (r.flatMap (fun x => x.lines t)).length = tot ∧ ∀ y ∈ r.flatMap (fun x => x.lines t), y.2.length ≤ 1000000 from ⟨hs2, by omega, fun y hy => hll y (List.mem_append_right _ hy)⟩)
          clear hsg hto hll hs2 hB1 hbm xb xl x0 sb sl
          go_wp2_with fail
          go_roundw
          case rel => exact ⟨k + 1, e + 1, r, by go_num, by omega, Lib.hid fun x hx => hmem.out x (List.mem_cons_of_mem _ hx), Lib.hid fun b' o' e' _ => by cases e'; rw [show o + (k + 1) * 16 = o + k * 16 + 16 by omega]; exact HR.out, HS2, HJ1⟩
          case measure => simp [intOf]; omega
        | true =>
          have hyes : kd = 3 ∨ kd = 4 ∨ kd = 5 := by simpa using hbk
          rw [St.lines, if_pos hyes] at hsg hto hll
          simp only [St.deep, St.size] at hdx hsx
          have hsg1 := hsg.left.tail
          have hsgR := hsg.right
          have hbl : ∀ y ∈ bd.lines (t + 1), y.2.length ≤ 1000000 := fun y hy => hll y (List.mem_append_left _ (List.mem_cons_of_mem _ (List.mem_append_left _ hy)))
          have hll2 : ∀ y ∈ r.flatMap (fun x => x.lines t), y.2.length ≤ 1000000 := fun y hy => hll y (List.mem_append_right _ hy)
          have ht1 : t ≤ 1000 := by omega
          have hcast : ((t + 1 : Nat) : Int) = IntKind.i64.wrap ((t : Int) + 1) := by rw [IntWalk.i64_in _ (by omega)]; omega
          have HBd := Lib.hid (fun (w1 : World) (hj : J (e + 1) w1) => IH.out bd (by omega) (t + 1) (e + 1) pb cb w1 hbm.1 (by omega) hbl sb hsg1.left hj)
          rw [hcast] at HBd
          obtain ⟨lb, hlb⟩ : ∃ k, k = (bd.lines (t + 1)).length := ⟨_, rfl⟩
          rw [← hlb] at HBd
          have hsg2 := hsg1.right
          rw [← hlb] at hsg2
          obtain ⟨e3, he3⟩ : ∃ k, k = e + 1 + lb + (if el.len = 0 then 0 else 1 + (el.lines (t + 1)).length) := ⟨_, rfl⟩
          have hie : (if el.len = 0 then [] else (t, elseT) :: el.lines (t + 1)).length = if el.len = 0 then 0 else 1 + (el.lines (t + 1)).length := by split <;> simp [Nat.add_comm]
          have hE : e + ((t, firstT kd nm ns ee.text aa.text g.texts lo hi) :: (bd.lines (t + 1) ++ ((if el.len = 0 then [] else (t, elseT) :: el.lines (t + 1)) ++ [(t, [125])]))).length = e3 + 1 := by
            rw [he3, List.length_cons, List.length_append, List.length_append, hie, ← hlb, List.length_cons, List.length_nil]; omega
          rw [hE] at hsgR
          rw [List.length_append, ← Nat.add_assoc, hE] at hto
          have he3L : e3 + 1 ≤ L.length := by have := hsgR.len; omega
          have hlast : L[e3]? = some (t, [125]) := by have h := hsg2.right.head; rw [hie, ← he3] at h; exact h
          have ys : wc.cell? ⟨qs, 0, none⟩ = some (.func (.func 74) #[] #[.pointer (some ⟨qy, 0, none⟩), .pointer (some ⟨qt, 0, none⟩), .pointer (some ⟨qs, 0, none⟩)]) := cell_of_one (HE.out.cl _ _ HJ1.out).ks
          have z14 := hB1 _ _ xb
          have HJd := Lib.hid (HE.out.mv _ wc wc.drew HJ1.out ⟨(Below.refl _ wc).drew, fun _ _ h _ => h⟩)
          have hle : el.len ≠ 0 → ∀ y ∈ el.lines (t + 1), y.2.length ≤ 1000000 := fun h y hy => hll y (List.mem_append_left _ (List.mem_cons_of_mem _ (List.mem_append_right _ (List.mem_append_left _ (by rw [if_neg h]; exact List.mem_cons_of_mem _ hy)))))
          clear hB1 hsg hll hsg1 hbl
          go_upto_region 8 with fail
          go_cut [39] from 31 to 38 (fun s39 wx => ∃ v, s39 = .bool (!v) ∧ Hid (Shown J Jx L (e + 1 + lb) v wx))
          case first =>
            refine (wpIn_wide (n := M + 1)).1 ?_
            gi_region_with (first
              | (refine ⟨trivial, ?_⟩; refine (callsIn_wide.2 (HBd.out _ HJd.out)).mono ?_; rintro z w3 ⟨v, rfl, hj⟩))
            all_goals (gi_wp2_with fail; go_meet; exact ⟨v, rfl, Lib.hid hj⟩)
          case rest =>
            obtain ⟨v, rfl, hj⟩ := hcut
            clear ys z14 HJd HBd HJ1
            rcases hj.out with ⟨rfl, hj1⟩ | ⟨rfl, hj1⟩
            rotate_left
            · have HX1 := Lib.hid hj1
              clear hj1 hj
              go_wp2_with fail
              go_ret
              exact ⟨false, rfl, .inr ⟨rfl, HX1.out⟩⟩
            have HJ2 := Lib.hid hj1
            clear hj1 hj
            have hB2 := HBl.out _ _ HJ2.out
            have z15 := hB2 _ _ xl
            have HJd2 := Lib.hid (HE.out.mv _ wc wc.drew HJ2.out ⟨(Below.refl _ wc).drew, fun _ _ h _ => h⟩)
            go_upto_region 10 with fail
            go_cut [62] from 40 to 61 (fun s62 wx => ∃ q, s62 = .bool (!q) ∧ Hid (Shown J Jx L e3 q wx))
            case first =>
              rename_i ab wcb l8 l7 l6 l5 l4 l3 l2 l1 l0 hh1 hh0 K1 a1 K2 a2 JQ KQ hJQ hKQ
              clear a1 a2 ab l8 l7 l6 l5 l4 l3 l2 l1 l0 hh1 hh0 HLS HSeg HLen HTot HJ hmem HX hmx hel he1 hll2 hlb HR S1 hbk hyes hB2 x0 xb sb hk hlt hm1 hlast hie hE hsgR hto
              refine (wpIn_wide (n := M + 1)).1 ?_
              by_cases h0 : el.len = 0
              · rw [h0] at z15
                rw [if_pos h0, Nat.add_zero] at he3
                refine wpIn_region_any (by kernel_rfl) ?_
                try (change wpAnyIn _ _ _ _ _ _ _ _ _ (World.drew _))
                refine wpAnyIn_take (i := 0) (oi := { dst := Option.some 40, op := Go.Op.move (Go.Operand.tmp 9), type := 110, pos := "lines.go:63", after := #[], guard := Option.none }) (v := ?_) rfl rfl (by kernel_rfl) (by kernel_rfl) (by kernel_rfl) (fun _ _ _ h => h) ⟨Or.inl ⟨by rfl, ?_⟩, fun _ => rfl⟩ ?_
                rotate_left
                · (intro w; go_simp; try with_reducible rfl)
                try simp only [Act.put, List.setIfInBounds_toArray, List.set_cons_zero, List.set_cons_succ]
                refine wpAnyIn_take (i := 1) (oi := { dst := Option.some 41, op := Go.Op.nilCheck (Go.Operand.tmp 40), type := 0, pos := "lines.go:63", after := #[{ on := 0, ground := Go.Ground.data }], guard := Option.none }) (v := ?_) rfl rfl (by kernel_rfl) (by kernel_rfl) (by kernel_rfl) (fun _ _ _ h => h) ⟨Or.inl ⟨by rfl, ?_⟩, fun _ => rfl⟩ ?_
                rotate_left
                · (intro w; go_simp; try with_reducible rfl)
                try simp only [Act.put, List.setIfInBounds_toArray, List.set_cons_zero, List.set_cons_succ]
                refine wpAnyIn_take (i := 2) (oi := { dst := Option.some 42, op := Go.Op.fieldAddr 35 (Go.Operand.tmp 41) 9, type := 0, pos := "lines.go:63", after := #[{ on := 1, ground := Go.Ground.data }], guard := Option.none }) (v := ?_) rfl rfl (by kernel_rfl) (by kernel_rfl) (by kernel_rfl) (fun _ _ _ h => h) ⟨Or.inl ⟨by rfl, ?_⟩, fun _ => rfl⟩ ?_
                rotate_left
                · (intro w; go_simp; try with_reducible rfl)
                try simp only [Act.put, List.setIfInBounds_toArray, List.set_cons_zero, List.set_cons_succ]
                refine wpAnyIn_ready (rs := [3]) (by kernel_rfl) (by simp) ?_
                refine AllReadyIn.cons (o := { dst := Option.some 43, op := Go.Op.load 33 (Go.Operand.tmp 42), type := 33, pos := "lines.go:63", after := #[{ on := 2, ground := Go.Ground.data }], guard := Option.none }) rfl (fun K hK => ?_) AllReadyIn.nil
                go_simp
                refine hK _ _ ?_
                clear hK K
                try simp only [Act.put, List.setIfInBounds_toArray, List.set_cons_zero, List.set_cons_succ]
                refine wpAnyIn_ready (rs := [4]) (by kernel_rfl) (by simp) ?_
                refine AllReadyIn.cons (o := { dst := Option.some 44, op := Go.Op.call { callee := Go.Callee.builtin Go.Builtin.len, args := #[Go.Operand.tmp 43], argTypes := #[33] }, type := 3, pos := "lines.go:63", after := #[{ on := 3, ground := Go.Ground.data }], guard := Option.none }) rfl (fun K hK => ?_) AllReadyIn.nil
                go_simp
                refine hK _ _ ?_
                clear hK K
                try simp only [Act.put, List.setIfInBounds_toArray, List.set_cons_zero, List.set_cons_succ]
                refine wpAnyIn_take (i := 5) (oi := { dst := Option.some 45, op := Go.Op.binOp Go.BinOp.gtr 3 (Go.Operand.tmp 44) (Go.Operand.const (Go.Value.int Go.IntKind.i64 0)) 3, type := 4, pos := "lines.go:63", after := #[{ on := 4, ground := Go.Ground.data }], guard := Option.none }) (v := .bool false) rfl rfl (by kernel_rfl) (by kernel_rfl) (by kernel_rfl) (fun _ _ _ h => h) ⟨Or.inl ⟨by rfl, ?_⟩, fun _ => rfl⟩ ?_
                · (intro w; go_simp)
                try simp only [Act.put, List.setIfInBounds_toArray, List.set_cons_zero, List.set_cons_succ]
                refine wpAnyIn_take (i := 6) (oi := { dst := Option.some 46, op := Go.Op.move (Go.Operand.tmp 45), type := 4, pos := "lines.go:63", after := #[{ on := 5, ground := Go.Ground.data }], guard := Option.none }) (v := ?_) rfl rfl (by kernel_rfl) (by kernel_rfl) (by kernel_rfl) (fun _ _ _ h => h) ⟨Or.inl ⟨by rfl, ?_⟩, fun _ => rfl⟩ ?_
                rotate_left
                · (intro w; go_simp; try with_reducible rfl)
                try simp only [Act.put, List.setIfInBounds_toArray, List.set_cons_zero, List.set_cons_succ]
                refine wpAnyIn_take (i := 7) (oi := { dst := Option.some 47, op := Go.Op.load 94 (Go.Operand.tmp 2), type := 94, pos := "lines.go:63", after := #[{ on := 6, ground := Go.Ground.guard }], guard := Option.some (6, Bool.true) }) (v := undef) rfl rfl (by kernel_rfl) (by kernel_rfl) (by kernel_rfl) (fun _ _ _ h => h) ⟨Or.inr ⟨by rfl, rfl⟩, fun _ => rfl⟩ ?_
                try simp only [Act.put, List.setIfInBounds_toArray, List.set_cons_zero, List.set_cons_succ]
                refine wpAnyIn_take (i := 8) (oi := { dst := Option.some 48, op := Go.Op.move (Go.Operand.tmp 1), type := 3, pos := "lines.go:63", after := #[{ on := 6, ground := Go.Ground.guard }], guard := Option.some (6, Bool.true) }) (v := undef) rfl rfl (by kernel_rfl) (by kernel_rfl) (by kernel_rfl) (fun _ _ _ h => h) ⟨Or.inr ⟨by rfl, rfl⟩, fun _ => rfl⟩ ?_
                try simp only [Act.put, List.setIfInBounds_toArray, List.set_cons_zero, List.set_cons_succ]
                refine wpAnyIn_take (i := 9) (oi := { dst := Option.some 49, op := Go.Op.call { callee := Go.Callee.value (Go.Operand.tmp 47), args := #[Go.Operand.tmp 48, Go.Operand.const (Go.Value.string { data := #[125, 32, 101, 108, 115, 101, 32, 123] })], argTypes := #[3, 9] }, type := 4, pos := "lines.go:63", after := #[{ on := 7, ground := Go.Ground.data }, { on := 8, ground := Go.Ground.data }, { on := 6, ground := Go.Ground.chain }, { on := 6, ground := Go.Ground.guard }], guard := Option.some (6, Bool.true) }) (v := undef) rfl rfl (by kernel_rfl) (by kernel_rfl) (by kernel_rfl) (fun _ _ _ h => h) ⟨Or.inr ⟨by rfl, rfl⟩, fun _ => rfl⟩ ?_
                try simp only [Act.put, List.setIfInBounds_toArray, List.set_cons_zero, List.set_cons_succ]
                refine wpAnyIn_take (i := 10) (oi := { dst := Option.some 50, op := Go.Op.unOp Go.UnOp.not 4 (Go.Operand.tmp 49), type := 4, pos := "lines.go:63", after := #[{ on := 9, ground := Go.Ground.data }, { on := 6, ground := Go.Ground.guard }], guard := Option.some (6, Bool.true) }) (v := undef) rfl rfl (by kernel_rfl) (by kernel_rfl) (by kernel_rfl) (fun _ _ _ h => h) ⟨Or.inr ⟨by rfl, rfl⟩, fun _ => rfl⟩ ?_
                try simp only [Act.put, List.setIfInBounds_toArray, List.set_cons_zero, List.set_cons_succ]
                refine wpAnyIn_take (i := 11) (oi := { dst := Option.some 51, op := Go.Op.move (Go.Operand.tmp 50), type := 4, pos := "lines.go:63", after := #[{ on := 10, ground := Go.Ground.data }, { on := 9, ground := Go.Ground.chain }, { on := 6, ground := Go.Ground.guard }], guard := Option.some (6, Bool.true) }) (v := undef) rfl rfl (by kernel_rfl) (by kernel_rfl) (by kernel_rfl) (fun _ _ _ h => h) ⟨Or.inr ⟨by rfl, rfl⟩, fun _ => rfl⟩ ?_
                try simp only [Act.put, List.setIfInBounds_toArray, List.set_cons_zero, List.set_cons_succ]
                refine wpAnyIn_take (i := 12) (oi := { dst := Option.some 52, op := Go.Op.load 132 (Go.Operand.tmp 4), type := 132, pos := "lines.go:63", after := #[{ on := 11, ground := Go.Ground.guard }], guard := Option.some (11, Bool.false) }) (v := undef) rfl rfl (by kernel_rfl) (by kernel_rfl) (by kernel_rfl) (fun _ _ _ h => h) ⟨Or.inr ⟨by rfl, rfl⟩, fun _ => rfl⟩ ?_
                try simp only [Act.put, List.setIfInBounds_toArray, List.set_cons_zero, List.set_cons_succ]
                refine wpAnyIn_take (i := 13) (oi := { dst := Option.some 53, op := Go.Op.move (Go.Operand.tmp 9), type := 110, pos := "lines.go:63", after := #[{ on := 11, ground := Go.Ground.guard }], guard := Option.some (11, Bool.false) }) (v := undef) rfl rfl (by kernel_rfl) (by kernel_rfl) (by kernel_rfl) (fun _ _ _ h => h) ⟨Or.inr ⟨by rfl, rfl⟩, fun _ => rfl⟩ ?_
                try simp only [Act.put, List.setIfInBounds_toArray, List.set_cons_zero, List.set_cons_succ]
                refine wpAnyIn_take (i := 14) (oi := { dst := Option.some 54, op := Go.Op.nilCheck (Go.Operand.tmp 53), type := 0, pos := "lines.go:63", after := #[{ on := 13, ground := Go.Ground.data }, { on := 11, ground := Go.Ground.guard }], guard := Option.some (11, Bool.false) }) (v := undef) rfl rfl (by kernel_rfl) (by kernel_rfl) (by kernel_rfl) (fun _ _ _ h => h) ⟨Or.inr ⟨by rfl, rfl⟩, fun _ => rfl⟩ ?_
                try simp only [Act.put, List.setIfInBounds_toArray, List.set_cons_zero, List.set_cons_succ]
                refine wpAnyIn_take (i := 15) (oi := { dst := Option.some 55, op := Go.Op.fieldAddr 35 (Go.Operand.tmp 54) 9, type := 0, pos := "lines.go:63", after := #[{ on := 14, ground := Go.Ground.data }, { on := 11, ground := Go.Ground.guard }], guard := Option.some (11, Bool.false) }) (v := undef) rfl rfl (by kernel_rfl) (by kernel_rfl) (by kernel_rfl) (fun _ _ _ h => h) ⟨Or.inr ⟨by rfl, rfl⟩, fun _ => rfl⟩ ?_
                try simp only [Act.put, List.setIfInBounds_toArray, List.set_cons_zero, List.set_cons_succ]
                refine wpAnyIn_take (i := 16) (oi := { dst := Option.some 56, op := Go.Op.load 33 (Go.Operand.tmp 55), type := 33, pos := "lines.go:63", after := #[{ on := 15, ground := Go.Ground.data }, { on := 11, ground := Go.Ground.guard }], guard := Option.some (11, Bool.false) }) (v := undef) rfl rfl (by kernel_rfl) (by kernel_rfl) (by kernel_rfl) (fun _ _ _ h => h) ⟨Or.inr ⟨by rfl, rfl⟩, fun _ => rfl⟩ ?_
                try simp only [Act.put, List.setIfInBounds_toArray, List.set_cons_zero, List.set_cons_succ]
                refine wpAnyIn_take (i := 17) (oi := { dst := Option.some 57, op := Go.Op.move (Go.Operand.tmp 1), type := 3, pos := "lines.go:63", after := #[{ on := 11, ground := Go.Ground.guard }], guard := Option.some (11, Bool.false) }) (v := undef) rfl rfl (by kernel_rfl) (by kernel_rfl) (by kernel_rfl) (fun _ _ _ h => h) ⟨Or.inr ⟨by rfl, rfl⟩, fun _ => rfl⟩ ?_
                try simp only [Act.put, List.setIfInBounds_toArray, List.set_cons_zero, List.set_cons_succ]
                refine wpAnyIn_take (i := 18) (oi := { dst := Option.some 58, op := Go.Op.binOp Go.BinOp.add 3 (Go.Operand.tmp 57) (Go.Operand.const (Go.Value.int Go.IntKind.i64 1)) 3, type := 3, pos := "lines.go:63", after := #[{ on := 17, ground := Go.Ground.data }, { on := 11, ground := Go.Ground.guard }], guard := Option.some (11, Bool.false) }) (v := undef) rfl rfl (by kernel_rfl) (by kernel_rfl) (by kernel_rfl) (fun _ _ _ h => h) ⟨Or.inr ⟨by rfl, rfl⟩, fun _ => rfl⟩ ?_
                try simp only [Act.put, List.setIfInBounds_toArray, List.set_cons_zero, List.set_cons_succ]
                refine wpAnyIn_take (i := 19) (oi := { dst := Option.some 59, op := Go.Op.call { callee := Go.Callee.value (Go.Operand.tmp 52), args := #[Go.Operand.tmp 56, Go.Operand.tmp 58], argTypes := #[33, 3] }, type := 4, pos := "lines.go:63", after := #[{ on := 12, ground := Go.Ground.data }, { on := 16, ground := Go.Ground.data }, { on := 18, ground := Go.Ground.data }, { on := 11, ground := Go.Ground.chain }, { on := 11, ground := Go.Ground.guard }], guard := Option.some (11, Bool.false) }) (v := undef) rfl rfl (by kernel_rfl) (by kernel_rfl) (by kernel_rfl) (fun _ _ _ h => h) ⟨Or.inr ⟨by rfl, rfl⟩, fun _ => rfl⟩ ?_
                try simp only [Act.put, List.setIfInBounds_toArray, List.set_cons_zero, List.set_cons_succ]
                refine wpAnyIn_take (i := 20) (oi := { dst := Option.some 60, op := Go.Op.unOp Go.UnOp.not 4 (Go.Operand.tmp 59), type := 4, pos := "lines.go:63", after := #[{ on := 19, ground := Go.Ground.data }, { on := 11, ground := Go.Ground.guard }], guard := Option.some (11, Bool.false) }) (v := undef) rfl rfl (by kernel_rfl) (by kernel_rfl) (by kernel_rfl) (fun _ _ _ h => h) ⟨Or.inr ⟨by rfl, rfl⟩, fun _ => rfl⟩ ?_
                try simp only [Act.put, List.setIfInBounds_toArray, List.set_cons_zero, List.set_cons_succ]
                refine wpAnyIn_take (i := 21) (oi := { dst := Option.some 61, op := Go.Op.pick (Go.Operand.tmp 51) (Go.Operand.const (Go.Value.bool Bool.true)) (Go.Operand.tmp 60), type := 4, pos := "lines.go:63", after := #[{ on := 11, ground := Go.Ground.data }, { on := 20, ground := Go.Ground.data }, { on := 6, ground := Go.Ground.guard }], guard := Option.some (6, Bool.true) }) (v := undef) rfl rfl (by kernel_rfl) (by kernel_rfl) (by kernel_rfl) (fun _ _ _ h => h) ⟨Or.inr ⟨by rfl, rfl⟩, fun _ => rfl⟩ ?_
                try simp only [Act.put, List.setIfInBounds_toArray, List.set_cons_zero, List.set_cons_succ]
                refine wpAnyIn_take (i := 22) (oi := { dst := Option.some 62, op := Go.Op.pick (Go.Operand.tmp 46) (Go.Operand.tmp 61) (Go.Operand.const (Go.Value.bool Bool.false)), type := 4, pos := "lines.go:63", after := #[{ on := 6, ground := Go.Ground.data }, { on := 21, ground := Go.Ground.data }], guard := Option.none }) (v := ?_) rfl rfl (by kernel_rfl) (by kernel_rfl) (by kernel_rfl) (fun _ _ _ h => h) ⟨Or.inl ⟨by rfl, ?_⟩, fun _ => rfl⟩ ?_
                rotate_left
                · (intro w; go_simp; try with_reducible rfl)
                try simp only [Act.put, List.setIfInBounds_toArray, List.set_cons_zero, List.set_cons_succ]
                refine wpAnyIn_done (by kernel_rfl) ?_ _
                gi_wp2_with fail
                go_meet
                exact ⟨true, rfl, Lib.hid (.inl ⟨rfl, he3 ▸ HJd2.out⟩)⟩
              · have hpos : (0 : Int) < (el.len : Int) := by omega
                rw [if_neg h0] at he3
                rw [if_neg h0] at hsg2
                have hyl := HE.out.yl _ _ wc.drew hsg2.left.head HJd2.out
                have hsE := hsg2.left.tail
                have HEl := Lib.hid (fun (w1 : World) (hj : J (e + 1 + lb + 1) w1) => IH.out el (by omega) (t + 1) (e + 1 + lb + 1) pl cl w1 hbm.2.1 (by omega) (fun y hy => hle h0 y hy) sl hsE hj)
                rw [hcast] at HEl
                have hfin : e + 1 + lb + 1 + (el.lines (t + 1)).length = e3 := by omega
                rw [hfin] at HEl
                have hk2 : e + 1 + lb + 1 ≤ L.length := by omega
                have y1 : wc.cell? ⟨qy, 0, none⟩ = some (.func (.yield l) #[] #[]) := cell_of_one (HE.out.cl _ _ HJ2.out).ky
                obtain ⟨fn, tmps, assign, body, hy, hR⟩ := hyl
                simp only [encL] at hy
                rw [show str elseT = ⟨#[125, 32, 101, 108, 115, 101, 32, 123]⟩ from rfl] at hy
                clear hsg2 hsE HJ2 he3 he3L hcast HJd2

                refine wpIn_region_any (by kernel_rfl) ?_
                try (change wpAnyIn _ _ _ _ _ _ _ _ _ (World.drew _))
                refine wpAnyIn_take (i := 0) (oi := { dst := Option.some 40, op := Go.Op.move (Go.Operand.tmp 9), type := 110, pos := "lines.go:63", after := #[], guard := Option.none }) (v := ?_) rfl rfl (by kernel_rfl) (by kernel_rfl) (by kernel_rfl) (fun _ _ _ h => h) ⟨Or.inl ⟨by rfl, ?_⟩, fun _ => rfl⟩ ?_
                rotate_left
                · (intro w; go_simp; try with_reducible rfl)
                try simp only [Act.put, List.setIfInBounds_toArray, List.set_cons_zero, List.set_cons_succ]
                refine wpAnyIn_take (i := 1) (oi := { dst := Option.some 41, op := Go.Op.nilCheck (Go.Operand.tmp 40), type := 0, pos := "lines.go:63", after := #[{ on := 0, ground := Go.Ground.data }], guard := Option.none }) (v := ?_) rfl rfl (by kernel_rfl) (by kernel_rfl) (by kernel_rfl) (fun _ _ _ h => h) ⟨Or.inl ⟨by rfl, ?_⟩, fun _ => rfl⟩ ?_
                rotate_left
                · (intro w; go_simp; try with_reducible rfl)
                try simp only [Act.put, List.setIfInBounds_toArray, List.set_cons_zero, List.set_cons_succ]
                refine wpAnyIn_take (i := 2) (oi := { dst := Option.some 42, op := Go.Op.fieldAddr 35 (Go.Operand.tmp 41) 9, type := 0, pos := "lines.go:63", after := #[{ on := 1, ground := Go.Ground.data }], guard := Option.none }) (v := ?_) rfl rfl (by kernel_rfl) (by kernel_rfl) (by kernel_rfl) (fun _ _ _ h => h) ⟨Or.inl ⟨by rfl, ?_⟩, fun _ => rfl⟩ ?_
                rotate_left
                · (intro w; go_simp; try with_reducible rfl)
                try simp only [Act.put, List.setIfInBounds_toArray, List.set_cons_zero, List.set_cons_succ]
                refine wpAnyIn_ready (rs := [3]) (by kernel_rfl) (by simp) ?_
                refine AllReadyIn.cons (o := { dst := Option.some 43, op := Go.Op.load 33 (Go.Operand.tmp 42), type := 33, pos := "lines.go:63", after := #[{ on := 2, ground := Go.Ground.data }], guard := Option.none }) rfl (fun K hK => ?_) AllReadyIn.nil
                go_simp
                refine hK _ _ ?_
                clear hK K
                try simp only [Act.put, List.setIfInBounds_toArray, List.set_cons_zero, List.set_cons_succ]
                refine wpAnyIn_ready (rs := [4]) (by kernel_rfl) (by simp) ?_
                refine AllReadyIn.cons (o := { dst := Option.some 44, op := Go.Op.call { callee := Go.Callee.builtin Go.Builtin.len, args := #[Go.Operand.tmp 43], argTypes := #[33] }, type := 3, pos := "lines.go:63", after := #[{ on := 3, ground := Go.Ground.data }], guard := Option.none }) rfl (fun K hK => ?_) AllReadyIn.nil
                go_simp
                refine hK _ _ ?_
                clear hK K
                try simp only [Act.put, List.setIfInBounds_toArray, List.set_cons_zero, List.set_cons_succ]
                refine wpAnyIn_take (i := 5) (oi := { dst := Option.some 45, op := Go.Op.binOp Go.BinOp.gtr 3 (Go.Operand.tmp 44) (Go.Operand.const (Go.Value.int Go.IntKind.i64 0)) 3, type := 4, pos := "lines.go:63", after := #[{ on := 4, ground := Go.Ground.data }], guard := Option.none }) (v := .bool true) rfl rfl (by kernel_rfl) (by kernel_rfl) (by kernel_rfl) (fun _ _ _ h => h) ⟨Or.inl ⟨by rfl, ?_⟩, fun _ => rfl⟩ ?_
                · (intro w; go_simp; omega)
                try simp only [Act.put, List.setIfInBounds_toArray, List.set_cons_zero, List.set_cons_succ]
                refine wpAnyIn_take (i := 6) (oi := { dst := Option.some 46, op := Go.Op.move (Go.Operand.tmp 45), type := 4, pos := "lines.go:63", after := #[{ on := 5, ground := Go.Ground.data }], guard := Option.none }) (v := ?_) rfl rfl (by kernel_rfl) (by kernel_rfl) (by kernel_rfl) (fun _ _ _ h => h) ⟨Or.inl ⟨by rfl, ?_⟩, fun _ => rfl⟩ ?_
                rotate_left
                · (intro w; go_simp; try with_reducible rfl)
                try simp only [Act.put, List.setIfInBounds_toArray, List.set_cons_zero, List.set_cons_succ]
                refine wpAnyIn_take (i := 8) (oi := { dst := Option.some 48, op := Go.Op.move (Go.Operand.tmp 1), type := 3, pos := "lines.go:63", after := #[{ on := 6, ground := Go.Ground.guard }], guard := Option.some (6, Bool.true) }) (v := ?_) rfl rfl (by kernel_rfl) (by kernel_rfl) (by kernel_rfl) (fun _ _ _ h => h) ⟨Or.inl ⟨by rfl, ?_⟩, fun _ => rfl⟩ ?_
                rotate_left
                · (intro w; go_simp; try with_reducible rfl)
                try simp only [Act.put, List.setIfInBounds_toArray, List.set_cons_zero, List.set_cons_succ]
                refine wpAnyIn_ready (rs := [7]) (by kernel_rfl) (by simp) ?_
                refine AllReadyIn.cons (o := { dst := Option.some 47, op := Go.Op.load 94 (Go.Operand.tmp 2), type := 94, pos := "lines.go:63", after := #[{ on := 6, ground := Go.Ground.guard }], guard := Option.some (6, Bool.true) }) rfl (fun K hK => ?_) AllReadyIn.nil
                go_simp
                refine hK _ _ ?_
                clear hK K
                try simp only [Act.put, List.setIfInBounds_toArray, List.set_cons_zero, List.set_cons_succ]
                refine wpAnyIn_ready (rs := [9]) (by kernel_rfl) (by simp) ?_
                refine AllReadyIn.cons (o := { dst := Option.some 49, op := Go.Op.call { callee := Go.Callee.value (Go.Operand.tmp 47), args := #[Go.Operand.tmp 48, Go.Operand.const (Go.Value.string { data := #[125, 32, 101, 108, 115, 101, 32, 123] })], argTypes := #[3, 9] }, type := 4, pos := "lines.go:63", after := #[{ on := 7, ground := Go.Ground.data }, { on := 8, ground := Go.Ground.data }, { on := 6, ground := Go.Ground.chain }, { on := 6, ground := Go.Ground.guard }], guard := Option.some (6, Bool.true) }) rfl (fun K hK => ?_) AllReadyIn.nil
                go_simp
                refine hR.mono ?_
                rintro z w3 ⟨v, rfl, hj⟩
                refine hK _ _ ?_
                clear hK K
                try simp only [Act.put, List.setIfInBounds_toArray, List.set_cons_zero, List.set_cons_succ]
                cases v with
                | false =>
                  have HX2 : Hid (Jx (e + 1 + lb + 1) w3) := Lib.hid (by rcases hj with ⟨h, _⟩ | ⟨_, h⟩; cases h; exact h)
                  clear hj HEl z15
                  refine wpAnyIn_take (i := 10) (oi := { dst := Option.some 50, op := Go.Op.unOp Go.UnOp.not 4 (Go.Operand.tmp 49), type := 4, pos := "lines.go:63", after := #[{ on := 9, ground := Go.Ground.data }, { on := 6, ground := Go.Ground.guard }], guard := Option.some (6, Bool.true) }) (v := ?_) rfl rfl (by kernel_rfl) (by kernel_rfl) (by kernel_rfl) (fun _ _ _ h => h) ⟨Or.inl ⟨by rfl, ?_⟩, fun _ => rfl⟩ ?_
                  rotate_left
                  · (intro w; go_simp; try with_reducible rfl)
                  try simp only [Act.put, List.setIfInBounds_toArray, List.set_cons_zero, List.set_cons_succ]
                  refine wpAnyIn_take (i := 11) (oi := { dst := Option.some 51, op := Go.Op.move (Go.Operand.tmp 50), type := 4, pos := "lines.go:63", after := #[{ on := 10, ground := Go.Ground.data }, { on := 9, ground := Go.Ground.chain }, { on := 6, ground := Go.Ground.guard }], guard := Option.some (6, Bool.true) }) (v := ?_) rfl rfl (by kernel_rfl) (by kernel_rfl) (by kernel_rfl) (fun _ _ _ h => h) ⟨Or.inl ⟨by rfl, ?_⟩, fun _ => rfl⟩ ?_
                  rotate_left
                  · (intro w; go_simp; try with_reducible rfl)
                  try simp only [Act.put, List.setIfInBounds_toArray, List.set_cons_zero, List.set_cons_succ]
                  refine wpAnyIn_take (i := 12) (oi := { dst := Option.some 52, op := Go.Op.load 132 (Go.Operand.tmp 4), type := 132, pos := "lines.go:63", after := #[{ on := 11, ground := Go.Ground.guard }], guard := Option.some (11, Bool.false) }) (v := undef) rfl rfl (by kernel_rfl) (by kernel_rfl) (by kernel_rfl) (fun _ _ _ h => h) ⟨Or.inr ⟨by rfl, rfl⟩, fun _ => rfl⟩ ?_
                  try simp only [Act.put, List.setIfInBounds_toArray, List.set_cons_zero, List.set_cons_succ]
                  refine wpAnyIn_take (i := 13) (oi := { dst := Option.some 53, op := Go.Op.move (Go.Operand.tmp 9), type := 110, pos := "lines.go:63", after := #[{ on := 11, ground := Go.Ground.guard }], guard := Option.some (11, Bool.false) }) (v := undef) rfl rfl (by kernel_rfl) (by kernel_rfl) (by kernel_rfl) (fun _ _ _ h => h) ⟨Or.inr ⟨by rfl, rfl⟩, fun _ => rfl⟩ ?_
                  try simp only [Act.put, List.setIfInBounds_toArray, List.set_cons_zero, List.set_cons_succ]
                  refine wpAnyIn_take (i := 14) (oi := { dst := Option.some 54, op := Go.Op.nilCheck (Go.Operand.tmp 53), type := 0, pos := "lines.go:63", after := #[{ on := 13, ground := Go.Ground.data }, { on := 11, ground := Go.Ground.guard }], guard := Option.some (11, Bool.false) }) (v := undef) rfl rfl (by kernel_rfl) (by kernel_rfl) (by kernel_rfl) (fun _ _ _ h => h) ⟨Or.inr ⟨by rfl, rfl⟩, fun _ => rfl⟩ ?_
                  try simp only [Act.put, List.setIfInBounds_toArray, List.set_cons_zero, List.set_cons_succ]
                  refine wpAnyIn_take (i := 15) (oi := { dst := Option.some 55, op := Go.Op.fieldAddr 35 (Go.Operand.tmp 54) 9, type := 0, pos := "lines.go:63", after := #[{ on := 14, ground := Go.Ground.data }, { on := 11, ground := Go.Ground.guard }], guard := Option.some (11, Bool.false) }) (v := undef) rfl rfl (by kernel_rfl) (by kernel_rfl) (by kernel_rfl) (fun _ _ _ h => h) ⟨Or.inr ⟨by rfl, rfl⟩, fun _ => rfl⟩ ?_
                  try simp only [Act.put, List.setIfInBounds_toArray, List.set_cons_zero, List.set_cons_succ]
                  refine wpAnyIn_take (i := 16) (oi := { dst := Option.some 56, op := Go.Op.load 33 (Go.Operand.tmp 55), type := 33, pos := "lines.go:63", after := #[{ on := 15, ground := Go.Ground.data }, { on := 11, ground := Go.Ground.guard }], guard := Option.some (11, Bool.false) }) (v := undef) rfl rfl (by kernel_rfl) (by kernel_rfl) (by kernel_rfl) (fun _ _ _ h => h) ⟨Or.inr ⟨by rfl, rfl⟩, fun _ => rfl⟩ ?_
                  try simp only [Act.put, List.setIfInBounds_toArray, List.set_cons_zero, List.set_cons_succ]
                  refine wpAnyIn_take (i := 17) (oi := { dst := Option.some 57, op := Go.Op.move (Go.Operand.tmp 1), type := 3, pos := "lines.go:63", after := #[{ on := 11, ground := Go.Ground.guard }], guard := Option.some (11, Bool.false) }) (v := undef) rfl rfl (by kernel_rfl) (by kernel_rfl) (by kernel_rfl) (fun _ _ _ h => h) ⟨Or.inr ⟨by rfl, rfl⟩, fun _ => rfl⟩ ?_
                  try simp only [Act.put, List.setIfInBounds_toArray, List.set_cons_zero, List.set_cons_succ]
                  refine wpAnyIn_take (i := 18) (oi := { dst := Option.some 58, op := Go.Op.binOp Go.BinOp.add 3 (Go.Operand.tmp 57) (Go.Operand.const (Go.Value.int Go.IntKind.i64 1)) 3, type := 3, pos := "lines.go:63", after := #[{ on := 17, ground := Go.Ground.data }, { on := 11, ground := Go.Ground.guard }], guard := Option.some (11, Bool.false) }) (v := undef) rfl rfl (by kernel_rfl) (by kernel_rfl) (by kernel_rfl) (fun _ _ _ h => h) ⟨Or.inr ⟨by rfl, rfl⟩, fun _ => rfl⟩ ?_
                  try simp only [Act.put, List.setIfInBounds_toArray, List.set_cons_zero, List.set_cons_succ]
                  refine wpAnyIn_take (i := 19) (oi := { dst := Option.some 59, op := Go.Op.call { callee := Go.Callee.value (Go.Operand.tmp 52), args := #[Go.Operand.tmp 56, Go.Operand.tmp 58], argTypes := #[33, 3] }, type := 4, pos := "lines.go:63", after := #[{ on := 12, ground := Go.Ground.data }, { on := 16, ground := Go.Ground.data }, { on := 18, ground := Go.Ground.data }, { on := 11, ground := Go.Ground.chain }, { on := 11, ground := Go.Ground.guard }], guard := Option.some (11, Bool.false) }) (v := undef) rfl rfl (by kernel_rfl) (by kernel_rfl) (by kernel_rfl) (fun _ _ _ h => h) ⟨Or.inr ⟨by rfl, rfl⟩, fun _ => rfl⟩ ?_
                  try simp only [Act.put, List.setIfInBounds_toArray, List.set_cons_zero, List.set_cons_succ]
                  refine wpAnyIn_take (i := 20) (oi := { dst := Option.some 60, op := Go.Op.unOp Go.UnOp.not 4 (Go.Operand.tmp 59), type := 4, pos := "lines.go:63", after := #[{ on := 19, ground := Go.Ground.data }, { on := 11, ground := Go.Ground.guard }], guard := Option.some (11, Bool.false) }) (v := undef) rfl rfl (by kernel_rfl) (by kernel_rfl) (by kernel_rfl) (fun _ _ _ h => h) ⟨Or.inr ⟨by rfl, rfl⟩, fun _ => rfl⟩ ?_
                  try simp only [Act.put, List.setIfInBounds_toArray, List.set_cons_zero, List.set_cons_succ]
                  refine wpAnyIn_take (i := 21) (oi := { dst := Option.some 61, op := Go.Op.pick (Go.Operand.tmp 51) (Go.Operand.const (Go.Value.bool Bool.true)) (Go.Operand.tmp 60), type := 4, pos := "lines.go:63", after := #[{ on := 11, ground := Go.Ground.data }, { on := 20, ground := Go.Ground.data }, { on := 6, ground := Go.Ground.guard }], guard := Option.some (6, Bool.true) }) (v := ?_) rfl rfl (by kernel_rfl) (by kernel_rfl) (by kernel_rfl) (fun _ _ _ h => h) ⟨Or.inl ⟨by rfl, ?_⟩, fun _ => rfl⟩ ?_
                  rotate_left
                  · (intro w; go_simp; try with_reducible rfl)
                  try simp only [Act.put, List.setIfInBounds_toArray, List.set_cons_zero, List.set_cons_succ]
                  refine wpAnyIn_take (i := 22) (oi := { dst := Option.some 62, op := Go.Op.pick (Go.Operand.tmp 46) (Go.Operand.tmp 61) (Go.Operand.const (Go.Value.bool Bool.false)), type := 4, pos := "lines.go:63", after := #[{ on := 6, ground := Go.Ground.data }, { on := 21, ground := Go.Ground.data }], guard := Option.none }) (v := ?_) rfl rfl (by kernel_rfl) (by kernel_rfl) (by kernel_rfl) (fun _ _ _ h => h) ⟨Or.inl ⟨by rfl, ?_⟩, fun _ => rfl⟩ ?_
                  rotate_left
                  · (intro w; go_simp; try with_reducible rfl)
                  try simp only [Act.put, List.setIfInBounds_toArray, List.set_cons_zero, List.set_cons_succ]
                  refine wpAnyIn_done (by kernel_rfl) ?_ _
                  gi_wp2_with fail
                  go_meet
                  exact ⟨false, rfl, Lib.hid (.inr ⟨rfl, _, hk2, HX2.out⟩)⟩
                | true =>
                  have HJ3 : Hid (J (e + 1 + lb + 1) w3) := Lib.hid (by rcases hj with ⟨_, h⟩ | ⟨h, _⟩; exact h; cases h)
                  have ys : w3.cell? ⟨qs, 0, none⟩ = some (.func (.func 74) #[] #[.pointer (some ⟨qy, 0, none⟩), .pointer (some ⟨qt, 0, none⟩), .pointer (some ⟨qs, 0, none⟩)]) := cell_of_one (HE.out.cl _ _ HJ3.out).ks
                  have z15 := HBl.out _ _ HJ3.out _ _ xl
                  have HC := Lib.hid (HEl.out _ HJ3.out)
                  clear hj
                  refine wpAnyIn_take (i := 10) (oi := { dst := Option.some 50, op := Go.Op.unOp Go.UnOp.not 4 (Go.Operand.tmp 49), type := 4, pos := "lines.go:63", after := #[{ on := 9, ground := Go.Ground.data }, { on := 6, ground := Go.Ground.guard }], guard := Option.some (6, Bool.true) }) (v := ?_) rfl rfl (by kernel_rfl) (by kernel_rfl) (by kernel_rfl) (fun _ _ _ h => h) ⟨Or.inl ⟨by rfl, ?_⟩, fun _ => rfl⟩ ?_
                  rotate_left
                  · (intro w; go_simp; try with_reducible rfl)
                  try simp only [Act.put, List.setIfInBounds_toArray, List.set_cons_zero, List.set_cons_succ]
                  refine wpAnyIn_take (i := 11) (oi := { dst := Option.some 51, op := Go.Op.move (Go.Operand.tmp 50), type := 4, pos := "lines.go:63", after := #[{ on := 10, ground := Go.Ground.data }, { on := 9, ground := Go.Ground.chain }, { on := 6, ground := Go.Ground.guard }], guard := Option.some (6, Bool.true) }) (v := ?_) rfl rfl (by kernel_rfl) (by kernel_rfl) (by kernel_rfl) (fun _ _ _ h => h) ⟨Or.inl ⟨by rfl, ?_⟩, fun _ => rfl⟩ ?_
                  rotate_left
                  · (intro w; go_simp; try with_reducible rfl)
                  try simp only [Act.put, List.setIfInBounds_toArray, List.set_cons_zero, List.set_cons_succ]
                  refine wpAnyIn_take (i := 13) (oi := { dst := Option.some 53, op := Go.Op.move (Go.Operand.tmp 9), type := 110, pos := "lines.go:63", after := #[{ on := 11, ground := Go.Ground.guard }], guard := Option.some (11, Bool.false) }) (v := ?_) rfl rfl (by kernel_rfl) (by kernel_rfl) (by kernel_rfl) (fun _ _ _ h => h) ⟨Or.inl ⟨by rfl, ?_⟩, fun _ => rfl⟩ ?_
                  rotate_left
                  · (intro w; go_simp; try with_reducible rfl)
                  try simp only [Act.put, List.setIfInBounds_toArray, List.set_cons_zero, List.set_cons_succ]
                  refine wpAnyIn_take (i := 14) (oi := { dst := Option.some 54, op := Go.Op.nilCheck (Go.Operand.tmp 53), type := 0, pos := "lines.go:63", after := #[{ on := 13, ground := Go.Ground.data }, { on := 11, ground := Go.Ground.guard }], guard := Option.some (11, Bool.false) }) (v := ?_) rfl rfl (by kernel_rfl) (by kernel_rfl) (by kernel_rfl) (fun _ _ _ h => h) ⟨Or.inl ⟨by rfl, ?_⟩, fun _ => rfl⟩ ?_
                  rotate_left
                  · (intro w; go_simp; try with_reducible rfl)
                  try simp only [Act.put, List.setIfInBounds_toArray, List.set_cons_zero, List.set_cons_succ]
                  refine wpAnyIn_take (i := 15) (oi := { dst := Option.some 55, op := Go.Op.fieldAddr 35 (Go.Operand.tmp 54) 9, type := 0, pos := "lines.go:63", after := #[{ on := 14, ground := Go.Ground.data }, { on := 11, ground := Go.Ground.guard }], guard := Option.some (11, Bool.false) }) (v := ?_) rfl rfl (by kernel_rfl) (by kernel_rfl) (by kernel_rfl) (fun _ _ _ h => h) ⟨Or.inl ⟨by rfl, ?_⟩, fun _ => rfl⟩ ?_
                  rotate_left
                  · (intro w; go_simp; try with_reducible rfl)
                  try simp only [Act.put, List.setIfInBounds_toArray, List.set_cons_zero, List.set_cons_succ]
                  refine wpAnyIn_take (i := 17) (oi := { dst := Option.some 57, op := Go.Op.move (Go.Operand.tmp 1), type := 3, pos := "lines.go:63", after := #[{ on := 11, ground := Go.Ground.guard }], guard := Option.some (11, Bool.false) }) (v := ?_) rfl rfl (by kernel_rfl) (by kernel_rfl) (by kernel_rfl) (fun _ _ _ h => h) ⟨Or.inl ⟨by rfl, ?_⟩, fun _ => rfl⟩ ?_
                  rotate_left
                  · (intro w; go_simp; try with_reducible rfl)
                  try simp only [Act.put, List.setIfInBounds_toArray, List.set_cons_zero, List.set_cons_succ]
                  refine wpAnyIn_take (i := 18) (oi := { dst := Option.some 58, op := Go.Op.binOp Go.BinOp.add 3 (Go.Operand.tmp 57) (Go.Operand.const (Go.Value.int Go.IntKind.i64 1)) 3, type := 3, pos := "lines.go:63", after := #[{ on := 17, ground := Go.Ground.data }, { on := 11, ground := Go.Ground.guard }], guard := Option.some (11, Bool.false) }) (v := ?_) rfl rfl (by kernel_rfl) (by kernel_rfl) (by kernel_rfl) (fun _ _ _ h => h) ⟨Or.inl ⟨by rfl, ?_⟩, fun _ => rfl⟩ ?_
                  rotate_left
                  · (intro w; go_simp; try with_reducible rfl)
                  try simp only [Act.put, List.setIfInBounds_toArray, List.set_cons_zero, List.set_cons_succ]
                  refine wpAnyIn_ready (rs := [12, 16]) (by kernel_rfl) (by simp) ?_
                  refine AllReadyIn.cons (o := { dst := Option.some 52, op := Go.Op.load 132 (Go.Operand.tmp 4), type := 132, pos := "lines.go:63", after := #[{ on := 11, ground := Go.Ground.guard }], guard := Option.some (11, Bool.false) }) rfl (fun K hK => ?_) (AllReadyIn.cons (o := { dst := Option.some 56, op := Go.Op.load 33 (Go.Operand.tmp 55), type := 33, pos := "lines.go:63", after := #[{ on := 15, ground := Go.Ground.data }, { on := 11, ground := Go.Ground.guard }], guard := Option.some (11, Bool.false) }) rfl (fun K hK => ?_) AllReadyIn.nil)
                  · go_simp
                    refine hK _ _ ?_
                    clear hK K
                    try simp only [Act.put, List.setIfInBounds_toArray, List.set_cons_zero, List.set_cons_succ]
                    refine wpAnyIn_ready (rs := [16]) (by kernel_rfl) (by simp) ?_
                    refine AllReadyIn.cons (o := { dst := Option.some 56, op := Go.Op.load 33 (Go.Operand.tmp 55), type := 33, pos := "lines.go:63", after := #[{ on := 15, ground := Go.Ground.data }, { on := 11, ground := Go.Ground.guard }], guard := Option.some (11, Bool.false) }) rfl (fun K hK => ?_) AllReadyIn.nil
                    go_simp
                    refine hK _ _ ?_
                    clear hK K
                    try simp only [Act.put, List.setIfInBounds_toArray, List.set_cons_zero, List.set_cons_succ]
                    refine wpAnyIn_ready (rs := [19]) (by kernel_rfl) (by simp) ?_
                    refine AllReadyIn.cons (o := { dst := Option.some 59, op := Go.Op.call { callee := Go.Callee.value (Go.Operand.tmp 52), args := #[Go.Operand.tmp 56, Go.Operand.tmp 58], argTypes := #[33, 3] }, type := 4, pos := "lines.go:63", after := #[{ on := 12, ground := Go.Ground.data }, { on := 16, ground := Go.Ground.data }, { on := 18, ground := Go.Ground.data }, { on := 11, ground := Go.Ground.chain }, { on := 11, ground := Go.Ground.guard }], guard := Option.some (11, Bool.false) }) rfl (fun K hK => ?_) AllReadyIn.nil
                    go_simp
                    refine ⟨trivial, ?_⟩
                    refine (callsIn_wide.2 HC.out).mono ?_
                    rintro z w4 ⟨v4, rfl, hs4⟩
                    refine hK _ _ ?_
                    clear hK K
                    try simp only [Act.put, List.setIfInBounds_toArray, List.set_cons_zero, List.set_cons_succ]
                    refine wpAnyIn_take (i := 20) (oi := { dst := Option.some 60, op := Go.Op.unOp Go.UnOp.not 4 (Go.Operand.tmp 59), type := 4, pos := "lines.go:63", after := #[{ on := 19, ground := Go.Ground.data }, { on := 11, ground := Go.Ground.guard }], guard := Option.some (11, Bool.false) }) (v := ?_) rfl rfl (by kernel_rfl) (by kernel_rfl) (by kernel_rfl) (fun _ _ _ h => h) ⟨Or.inl ⟨by rfl, ?_⟩, fun _ => rfl⟩ ?_
                    rotate_left
                    · (intro w; go_simp; try with_reducible rfl)
                    try simp only [Act.put, List.setIfInBounds_toArray, List.set_cons_zero, List.set_cons_succ]
                    refine wpAnyIn_take (i := 21) (oi := { dst := Option.some 61, op := Go.Op.pick (Go.Operand.tmp 51) (Go.Operand.const (Go.Value.bool Bool.true)) (Go.Operand.tmp 60), type := 4, pos := "lines.go:63", after := #[{ on := 11, ground := Go.Ground.data }, { on := 20, ground := Go.Ground.data }, { on := 6, ground := Go.Ground.guard }], guard := Option.some (6, Bool.true) }) (v := ?_) rfl rfl (by kernel_rfl) (by kernel_rfl) (by kernel_rfl) (fun _ _ _ h => h) ⟨Or.inl ⟨by rfl, ?_⟩, fun _ => rfl⟩ ?_
                    rotate_left
                    · (intro w; go_simp; try with_reducible rfl)
                    try simp only [Act.put, List.setIfInBounds_toArray, List.set_cons_zero, List.set_cons_succ]
                    refine wpAnyIn_take (i := 22) (oi := { dst := Option.some 62, op := Go.Op.pick (Go.Operand.tmp 46) (Go.Operand.tmp 61) (Go.Operand.const (Go.Value.bool Bool.false)), type := 4, pos := "lines.go:63", after := #[{ on := 6, ground := Go.Ground.data }, { on := 21, ground := Go.Ground.data }], guard := Option.none }) (v := ?_) rfl rfl (by kernel_rfl) (by kernel_rfl) (by kernel_rfl) (fun _ _ _ h => h) ⟨Or.inl ⟨by rfl, ?_⟩, fun _ => rfl⟩ ?_
                    rotate_left
                    · (intro w; go_simp; try with_reducible rfl)
                    try simp only [Act.put, List.setIfInBounds_toArray, List.set_cons_zero, List.set_cons_succ]
                    refine wpAnyIn_done (by kernel_rfl) ?_ _
                    gi_wp2_with fail
                    go_meet
                    exact ⟨v4, rfl, Lib.hid (hs4)⟩
                  · go_simp
                    refine hK _ _ ?_
                    clear hK K
                    try simp only [Act.put, List.setIfInBounds_toArray, List.set_cons_zero, List.set_cons_succ]
                    refine wpAnyIn_ready (rs := [12]) (by kernel_rfl) (by simp) ?_
                    refine AllReadyIn.cons (o := { dst := Option.some 52, op := Go.Op.load 132 (Go.Operand.tmp 4), type := 132, pos := "lines.go:63", after := #[{ on := 11, ground := Go.Ground.guard }], guard := Option.some (11, Bool.false) }) rfl (fun K hK => ?_) AllReadyIn.nil
                    go_simp
                    refine hK _ _ ?_
                    clear hK K
                    try simp only [Act.put, List.setIfInBounds_toArray, List.set_cons_zero, List.set_cons_succ]
                    refine wpAnyIn_ready (rs := [19]) (by kernel_rfl) (by simp) ?_
                    refine AllReadyIn.cons (o := { dst := Option.some 59, op := Go.Op.call { callee := Go.Callee.value (Go.Operand.tmp 52), args := #[Go.Operand.tmp 56, Go.Operand.tmp 58], argTypes := #[33, 3] }, type := 4, pos := "lines.go:63", after := #[{ on := 12, ground := Go.Ground.data }, { on := 16, ground := Go.Ground.data }, { on := 18, ground := Go.Ground.data }, { on := 11, ground := Go.Ground.chain }, { on := 11, ground := Go.Ground.guard }], guard := Option.some (11, Bool.false) }) rfl (fun K hK => ?_) AllReadyIn.nil
                    go_simp
                    refine ⟨trivial, ?_⟩
                    refine (callsIn_wide.2 HC.out).mono ?_
                    rintro z w4 ⟨v4, rfl, hs4⟩
                    refine hK _ _ ?_
                    clear hK K
                    try simp only [Act.put, List.setIfInBounds_toArray, List.set_cons_zero, List.set_cons_succ]
                    refine wpAnyIn_take (i := 20) (oi := { dst := Option.some 60, op := Go.Op.unOp Go.UnOp.not 4 (Go.Operand.tmp 59), type := 4, pos := "lines.go:63", after := #[{ on := 19, ground := Go.Ground.data }, { on := 11, ground := Go.Ground.guard }], guard := Option.some (11, Bool.false) }) (v := ?_) rfl rfl (by kernel_rfl) (by kernel_rfl) (by kernel_rfl) (fun _ _ _ h => h) ⟨Or.inl ⟨by rfl, ?_⟩, fun _ => rfl⟩ ?_
                    rotate_left
                    · (intro w; go_simp; try with_reducible rfl)
                    try simp only [Act.put, List.setIfInBounds_toArray, List.set_cons_zero, List.set_cons_succ]
                    refine wpAnyIn_take (i := 21) (oi := { dst := Option.some 61, op := Go.Op.pick (Go.Operand.tmp 51) (Go.Operand.const (Go.Value.bool Bool.true)) (Go.Operand.tmp 60), type := 4, pos := "lines.go:63", after := #[{ on := 11, ground := Go.Ground.data }, { on := 20, ground := Go.Ground.data }, { on := 6, ground := Go.Ground.guard }], guard := Option.some (6, Bool.true) }) (v := ?_) rfl rfl (by kernel_rfl) (by kernel_rfl) (by kernel_rfl) (fun _ _ _ h => h) ⟨Or.inl ⟨by rfl, ?_⟩, fun _ => rfl⟩ ?_
                    rotate_left
                    · (intro w; go_simp; try with_reducible rfl)
                    try simp only [Act.put, List.setIfInBounds_toArray, List.set_cons_zero, List.set_cons_succ]
                    refine wpAnyIn_take (i := 22) (oi := { dst := Option.some 62, op := Go.Op.pick (Go.Operand.tmp 46) (Go.Operand.tmp 61) (Go.Operand.const (Go.Value.bool Bool.false)), type := 4, pos := "lines.go:63", after := #[{ on := 6, ground := Go.Ground.data }, { on := 21, ground := Go.Ground.data }], guard := Option.none }) (v := ?_) rfl rfl (by kernel_rfl) (by kernel_rfl) (by kernel_rfl) (fun _ _ _ h => h) ⟨Or.inl ⟨by rfl, ?_⟩, fun _ => rfl⟩ ?_
                    rotate_left
                    · (intro w; go_simp; try with_reducible rfl)
                    try simp only [Act.put, List.setIfInBounds_toArray, List.set_cons_zero, List.set_cons_succ]
                    refine wpAnyIn_done (by kernel_rfl) ?_ _
                    gi_wp2_with fail
                    go_meet
                    exact ⟨v4, rfl, Lib.hid (hs4)⟩
            case rest =>
              obtain ⟨q, rfl, hj⟩ := hcut
              clear z15 HJd2 HJ2 hB2
              rcases hj.out with ⟨rfl, hj1⟩ | ⟨rfl, hj1⟩
              rotate_left
              · have HX1 := Lib.hid hj1
                clear hj1 hj
                go_wp2_with fail
                go_ret
                exact ⟨false, rfl, .inr ⟨rfl, HX1.out⟩⟩
              have HJ3 := Lib.hid hj1
              clear hj1 hj
              have HS2 := Lib.hid (show Seg L (e3 + 1) (r.flatMap (fun x => x.lines t)) ∧ e3 + 1 + (r.flatMap (fun x => x.lines t)).length = tot ∧ ∀ y ∈ r.flatMap (fun x => x.lines t), y.2.length ≤ 1000000 from ⟨hsgR, hto, hll2⟩)
              have y1 : wc.cell? ⟨qy, 0, none⟩ = some (.func (.yield l) #[] #[]) := cell_of_one (HE.out.cl _ _ HJ3.out).ky
              have hyl := Lib.hid (HE.out.yl _ _ wc hlast HJ3.out)
              clear hsg2 hsgR hto hll2 hlast hie hE hle
              go_upto_region 12 with fail
              refine (wpIn_wide (n := M + 1)).1 ?_
              obtain ⟨fn, tmps, assign, body, hy, hR⟩ := hyl.out
              simp only [encL] at hy
              rw [show str [125] = ⟨#[125]⟩ from rfl] at hy
              gi_wp2_with fail
              refine hR.mono ?_
              rintro z w3 ⟨v, rfl, hj⟩
              clear hy hR y1
              rcases hj with ⟨rfl, hj1⟩ | ⟨rfl, hj1⟩
              · have HJ4 := Lib.hid hj1
                clear hj1
                gi_wp2_with fail
                go_wp2_with fail
                go_roundw
                case rel => exact ⟨k + 1, e3 + 1, r, by go_num, by omega, Lib.hid fun x hx => hmem.out x (List.mem_cons_of_mem _ hx), Lib.hid fun b' o' e' _ => by cases e'; rw [show o + (k + 1) * 16 = o + k * 16 + 16 by omega]; exact HR.out, HS2, HJ4⟩
                case measure => simp [intOf]; omega
              · have HX4 := Lib.hid hj1
                clear hj1
                gi_wp2_with fail
                go_wp2_with fail
                go_ret
                exact ⟨false, rfl, .inr ⟨rfl, e3 + 1, he3L, HX4.out⟩⟩
end Go.Proofs.YtkjhofnkgcjcoaaDoor
