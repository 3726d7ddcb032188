/- V1, V2, V3, V4, J2 as one. -/
import Derived.Deep.RegionHeld
import Derived.WalkMore
import Derived.Deep.CutBlock
import Derived.Deep.CutRange
import Derived.Test.YtlhbledakddbbaaGreatDoorZcE
/- The lines of any statements, shown one by one: the closure that calls itself. -/
namespace Go.Proofs.YtlhbledakddbbaaGreatDoor
open Go.RowKit
attribute [local go_sem] Oper.semAt_some

theorem hasBlock_any (k : Int) (w : World) : Calls Tryz.prog 110 #[.int .i64 k] w fun e w' => e = .returned (.bool (decide (k = 3 ∨ k = 4 ∨ k = 5))) ∧ w = w' := by
  by_cases h3 : k = 3
  · subst h3
    go_enter Tryz.func110, Tryz.ntmps110
    go_wp2_with fail
    go_ret
    exact ⟨rfl, rfl⟩
  · by_cases h4 : k = 4
    · subst h4
      go_enter Tryz.func110, Tryz.ntmps110
      go_wp2_with fail
      go_ret
      exact ⟨rfl, rfl⟩
    · by_cases h5 : k = 5
      · subst h5
        go_enter Tryz.func110, Tryz.ntmps110
        go_wp2_with fail
        go_ret
        exact ⟨rfl, rfl⟩
      · go_enter Tryz.func110, Tryz.ntmps110
        go_wp2_with fail
        go_ret
        exact ⟨by simp [h3, h4, h5], rfl⟩

theorem Sts.lines_toL : ∀ (l : Sts) (t : Nat), l.lines t = l.toL.flatMap (fun x => x.lines t)
  | .nil, _ => rfl
  | .cons x r, t => by simp only [Sts.lines, Sts.toL, List.flatMap_cons, Sts.lines_toL r t]
theorem Sts.may_toL : ∀ l : Sts, l.may = l.toL.all St.may
  | .nil => rfl
  | .cons x r => by simp only [Sts.may, Sts.toL, List.all_cons, Sts.may_toL r]
theorem Sts.deep_toL : ∀ (l : Sts), ∀ x ∈ l.toL, x.deep ≤ l.deep
  | .nil, _, h => by cases h
  | .cons y r, x, h => by
    simp only [Sts.toL, List.mem_cons] at h
    simp only [Sts.deep]
    rcases h with rfl | h
    · omega
    · have := Sts.deep_toL r x h; omega

theorem St.first_mem : ∀ (x : St) (t : Nat), (t, x.first) ∈ x.lines t
  | .mk _ _ _ _ _ _ _ _ _ _, _ => by rw [St.lines]; exact List.mem_cons_self
theorem Seg.head' {L : List (Nat × List UInt8)} {d t : Nat} {x : St} (h : Seg L d (x.lines t)) : L[d]? = some (t, x.first) := by
  obtain ⟨kd, nm, ns, e, a, g, lo, hi, bd, el⟩ := x
  rw [St.lines] at h
  exact h.head
/-- what the closures of a loop over lines hold -/
structure ShC (l qy qt qs m : Nat) (A : World) : Prop where
  ky : A.heap[qy]? = some (.cells #[.func (.yield l) #[] #[]] 117 (0, 0))
  kt : A.heap[qt]? = some (.cells #[.map (some m)] 68 (0, 0))
  ks : A.heap[qs]? = some (.cells #[.func (.func 108) #[] #[.pointer (some ⟨qy, 0, none⟩), .pointer (some ⟨qt, 0, none⟩), .pointer (some ⟨qs, 0, none⟩)]] 55 (0, 0))
  km : A.heap[m]? = some (fmap signT)
/-- a yield that is handed the lines L -/
structure ShEnv (l M N qy qt qs m : Nat) (w0 : World) (L : List (Nat × List UInt8)) (J Jx : Nat → World → Prop) : Prop where
  gl : Glob w0
  mv : ∀ k A B, J k A → Rn N A B → J k B
  bel : ∀ k A, J k A → Below w0.heap.size w0 A
  hn : ∀ k A, J k A → N ≤ A.heap.size
  cl : ∀ k A, J k A → ShC l qy qt qs m A
  yl : ∀ k x W1, L[k]? = some x → J k W1 → YieldAt Fence.wide M Tryz.prog l (encL x) W1 fun e W' => ∃ v, e = .returned (.bool v) ∧ JJ J Jx v (k + 1) W'
/-- what the showing of lines leaves -/
def Shown (J Jx : Nat → World → Prop) (L : List (Nat × List UInt8)) (d : Nat) (v : Bool) (W : World) : Prop := (v = true ∧ J d W) ∨ (v = false ∧ ∃ k, k ≤ L.length ∧ Jx k W)
def ShN (qy qt qs : Nat) (w0 : World) (L : List (Nat × List UInt8)) (J Jx : Nat → World → Prop) (n : Nat) : Prop :=
  ∀ (ls : Sts), ls.size < n → ∀ (t d : Nat) (p : Option Addr) (c : Nat) (w : World), ls.may = true → t + ls.deep ≤ 1000 → (∀ y ∈ ls.lines t, y.2.length ≤ 1000000) → ls.In w0 w0.heap.size p → Seg L d (ls.lines t) → J d w →
    Calls Tryz.prog 108 #[.slice p ls.len c, .int .i64 (t : Int), .pointer (some ⟨qy, 0, none⟩), .pointer (some ⟨qt, 0, none⟩), .pointer (some ⟨qs, 0, none⟩)] w fun e w' => ∃ v, e = .returned (.bool v) ∧ Shown J Jx L (d + (ls.lines t).length) v w'

set_option maxRecDepth 100000 in
set_option maxHeartbeats 6400000 in
theorem shn_step {l M N qy qt qs m : Nat} {w0 : World} {L : List (Nat × List UInt8)} {J Jx : Nat → World → Prop} (E : ShEnv l M N qy qt qs m w0 L J Jx) (n : Nat) (ih : ShN qy qt qs w0 L J Jx n) : ShN qy qt qs w0 L J Jx (n + 1) := by
  intro ls hsz t d p c w hmay hdeep hlen hin hseg hj
  have hls : ∀ x ∈ ls.toL, x.size < n ∧ x.may = true ∧ t + x.deep ≤ 1000 := fun x hx => by
    have h1 := Sts.toL_size hx
    have h2 := Sts.deep_toL ls x hx
    rw [Sts.may_toL] at hmay
    exact ⟨by omega, List.all_eq_true.1 hmay x hx, by omega⟩
  replace hin := Sts.rowIn hin
  rw [Sts.lines_toL] at hlen hseg ⊢
  rw [Sts.toL_len]
  generalize ls.toL = xs at hin hls hlen hseg ⊢
  have HLS := Lib.hid hls
  have S1 := Lib.hid hin
  have hm1 := hin.1
  have HSeg := Lib.hid hseg
  have HLen := Lib.hid hlen
  have HJ := Lib.hid hj
  have HE := Lib.hid E
  have IH := Lib.hid ih
  clear hin hls hlen hseg hj E ih hmay hdeep hsz
  obtain ⟨tot, htot⟩ : ∃ k, k = d + (xs.flatMap (fun x => x.lines t)).length := ⟨_, rfl⟩
  rw [← htot]
  have HTot := Lib.hid htot
  clear htot
  go_enter Tryz.func108, Tryz.ntmps108
  go_wp2_with fail
  go_loopw [12] (fun i wr => ∃ (k e : Nat) (r : List St), i = .int .i64 k ∧ k + r.length = xs.length ∧ Hid (∀ x ∈ r, x ∈ xs) ∧ Hid (∀ b o, p = some ⟨b, o, none⟩ → Row (St.At w0 w0.heap.size) 16 xs b o → Row (St.At w0 w0.heap.size) 16 r b (o + k * 16)) ∧ Hid (Seg L e (r.flatMap (fun x => x.lines t)) ∧ e + (r.flatMap (fun x => x.lines t)).length = tot ∧ ∀ y ∈ r.flatMap (fun x => x.lines t), y.2.length ≤ 1000000) ∧ Hid (J e wr)) (fun i _ => xs.length - (intOf i).toNat)
  case atStart => exact ⟨0, d, xs, rfl, by omega, Lib.hid fun x h => h, Lib.hid fun b o _ h => by rw [Nat.zero_mul]; exact h, Lib.hid ⟨HSeg.out, HTot.out.symm, HLen.out⟩, HJ⟩
  case round =>
    obtain ⟨k, e, r, rfl, hk, hmem, hat, hS, hJ⟩ := hrel
    cases r with
    | nil =>
      simp only [List.length_nil] at hk
      have hge : ¬ k < xs.length := by omega
      go_wp2_with fail
      go_ret
      have he : e = tot := by have := hS.out.2.1; simpa using this
      subst he
      exact ⟨true, rfl, .inl ⟨rfl, hJ.out⟩⟩
    | cons x r =>
      simp only [List.length_cons] at hk
      have hlt : k < xs.length := by omega
      rcases S1.out.2 with h30 | ⟨b, o, rfl, hb, ha⟩
      · omega
      obtain ⟨hx, hr⟩ := hat.out b o rfl ha
      obtain ⟨hsx, hmx, hdx⟩ := HLS.out x (hmem.out x (by simp))
      have HR := Lib.hid hr
      obtain ⟨hsg, hto, hll⟩ := hS.out
      rw [List.flatMap_cons] at hsg hto hll
      obtain ⟨kd, nm, ns, ee, aa, g, lo, hi, bd, el⟩ := x
      have HX := Lib.hid hx
      have HJ0 := Lib.hid hJ.out
      have HBl := Lib.hid (fun k A h => HE.out.bel k A h)
      have hbw : b < wr.heap.size := Nat.lt_of_lt_of_le hb (HE.out.bel _ _ hJ.out).size
      have y1 : wr.cell? ⟨qy, 0, none⟩ = some (.func (.yield l) #[] #[]) := cell_of_one (HE.out.cl _ _ hJ.out).ky
      have y2 : wr.cell? ⟨qt, 0, none⟩ = some (.map (some m)) := cell_of_one (HE.out.cl _ _ hJ.out).kt
      have HFi := Lib.hid (first_any _ hmx b (o + k * 16) m wr.drew hbw (St.At.later (HE.out.bel _ _ hJ.out).drew (HE.out.bel _ _ hJ.out).size _ b _ hb hx) (HE.out.cl _ _ hJ.out).km (HE.out.gl.later (HE.out.bel _ _ hJ.out).drew) (hll _ (List.mem_append_left _ (St.first_mem _ t))))
      clear hx hr ha hat hJ hS
      go_wp2_with fail
      go_cut [24] from 18 to 23 (fun s24 wx => ∃ v, s24 = .bool (!v) ∧ Hid (JJ J Jx v (e + 1) wx))
      case first =>
        refine (wpIn_wide (n := M + 1)).1 ?_
        have HG := Lib.hid hsg.left.head'
        have HJd := Lib.hid (HE.out.mv e wr wr.drew HJ0.out ⟨(Below.refl _ wr).drew, fun _ _ h _ => h⟩)
        gi_region_with (first
          | (refine ⟨trivial, ?_⟩; gi_at_call 109; refine (callsIn_wide.2 HFi.out).mono ?_; rintro z w2 ⟨rfl, hB2⟩; have y1 := (hB2.cell (p := ⟨qy, 0, none⟩) (lt_of_block (HE.out.cl _ _ HJ0.out).ky)).trans y1; obtain ⟨fn, tmps, assign, body, hy, hR⟩ := HE.out.yl _ _ w2 HG.out (HE.out.mv _ _ _ HJd.out (Rn.of_below hB2 (HE.out.hn _ _ HJd.out))); rw [encL] at hy)
          | (refine hR.mono ?_; rintro z w3 ⟨v, rfl, hj⟩))
        all_goals (gi_wp2_with fail; go_meet; exact ⟨v, rfl, Lib.hid hj⟩)
      case rest =>
        obtain ⟨v, rfl, hj⟩ := hcut
        have hel := hsg.left.len
        have he1 : e + 1 ≤ L.length := by have := hel; simp only [St.lines, List.length_cons] at this; omega
        clear y1 y2 HFi HJ0 hbw
        rcases hj.out with ⟨rfl, hj1⟩ | ⟨rfl, hj1⟩
        rotate_left
        · have HX1 := Lib.hid hj1
          clear hj1 hj
          go_wp2_with fail
          go_ret
          exact ⟨false, rfl, .inr ⟨rfl, e + 1, he1, HX1.out⟩⟩
        have HJ1 := Lib.hid hj1
        clear hj1 hj
        obtain ⟨x0, _, _, _, _, _, _, _, _, _, ⟨pb, cb, xb, sb⟩, ⟨pl, cl, xl, sl⟩⟩ := HX.out.parts
        have hB1 := HBl.out _ _ HJ1.out
        have z0 := (hB1.cell hb).trans x0
        have hbm := may_block hmx
        obtain ⟨bk, hbk⟩ : ∃ bk, decide (kd = 3 ∨ kd = 4 ∨ kd = 5) = bk := ⟨_, rfl⟩
        have HHb := Lib.hid (hasBlock_any kd wc)
        rw [hbk] at HHb
        go_wp2_with fail
        refine HHb.out.mono ?_
        rintro z w2 ⟨rfl, rfl⟩
        clear HHb z0
        cases bk with
        | false =>
          have hno : ¬ (kd = 3 ∨ kd = 4 ∨ kd = 5) := by simpa using hbk
          rw [St.lines, if_neg hno] at hsg hto hll
          have hs2 := hsg.right
          simp only [List.length_cons, List.length_nil, List.length_append] at hs2 hto
          have HS2 := Lib.hid (show Seg L (e + 1) (r.flatMap (fun x => x.lines t)) ∧ e + 1 + (r.flatMap (fun x => x.lines t)).length = tot ∧ ∀ y ∈ r.flatMap (fun x => x.lines t), y.2.length ≤ 1000000 from ⟨hs2, by omega, fun y hy => hll y (List.mem_append_right _ hy)⟩)
          clear hsg hto hll hs2 hB1 hbm xb xl x0 sb sl
          go_wp2_with fail
          go_roundw
          case rel => exact ⟨k + 1, e + 1, r, by go_num, by omega, Lib.hid fun x hx => hmem.out x (List.mem_cons_of_mem _ hx), Lib.hid fun b' o' e' _ => by cases e'; rw [show o + (k + 1) * 16 = o + k * 16 + 16 by omega]; exact HR.out, HS2, HJ1⟩
          case measure => simp [intOf]; omega
        | true =>
          have hyes : kd = 3 ∨ kd = 4 ∨ kd = 5 := by simpa using hbk
          rw [St.lines, if_pos hyes] at hsg hto hll
          simp only [St.deep, St.size] at hdx hsx
          have hsg1 := hsg.left.tail
          have hsgR := hsg.right
          have hbl : ∀ y ∈ bd.lines (t + 1), y.2.length ≤ 1000000 := fun y hy => hll y (List.mem_append_left _ (List.mem_cons_of_mem _ (List.mem_append_left _ hy)))
          have hll2 : ∀ y ∈ r.flatMap (fun x => x.lines t), y.2.length ≤ 1000000 := fun y hy => hll y (List.mem_append_right _ hy)
          have ht1 : t ≤ 1000 := by omega
          have hcast : ((t + 1 : Nat) : Int) = IntKind.i64.wrap ((t : Int) + 1) := by rw [IntWalk.i64_in _ (by omega)]; omega
          have HBd := Lib.hid (fun (w1 : World) (hj : J (e + 1) w1) => IH.out bd (by omega) (t + 1) (e + 1) pb cb w1 hbm.1 (by omega) hbl sb hsg1.left hj)
          rw [hcast] at HBd
          obtain ⟨lb, hlb⟩ : ∃ k, k = (bd.lines (t + 1)).length := ⟨_, rfl⟩
          rw [← hlb] at HBd
          have hsg2 := hsg1.right
          rw [← hlb] at hsg2
          obtain ⟨e3, he3⟩ : ∃ k, k = e + 1 + lb + (if el.len = 0 then 0 else 1 + (el.lines (t + 1)).length) := ⟨_, rfl⟩
          have hie : (if el.len = 0 then [] else (t, elseT) :: el.lines (t + 1)).length = if el.len = 0 then 0 else 1 + (el.lines (t + 1)).length := by split <;> simp [Nat.add_comm]
          have hE : e + ((t, firstT kd nm ns ee.text aa.text g.texts lo hi) :: (bd.lines (t + 1) ++ ((if el.len = 0 then [] else (t, elseT) :: el.lines (t + 1)) ++ [(t, [125])]))).length = e3 + 1 := by
            rw [he3, List.length_cons, List.length_append, List.length_append, hie, ← hlb, List.length_cons, List.length_nil]; omega
          rw [hE] at hsgR
          rw [List.length_append, ← Nat.add_assoc, hE] at hto
          have he3L : e3 + 1 ≤ L.length := by have := hsgR.len; omega
          have hlast : L[e3]? = some (t, [125]) := by have h := hsg2.right.head; rw [hie, ← he3] at h; exact h
          have ys : wc.cell? ⟨qs, 0, none⟩ = some (.func (.func 108) #[] #[.pointer (some ⟨qy, 0, none⟩), .pointer (some ⟨qt, 0, none⟩), .pointer (some ⟨qs, 0, none⟩)]) := cell_of_one (HE.out.cl _ _ HJ1.out).ks
          have z14 := (hB1.cell hb).trans xb
          have HJd := Lib.hid (HE.out.mv _ wc wc.drew HJ1.out ⟨(Below.refl _ wc).drew, fun _ _ h _ => h⟩)
          have hle : el.len ≠ 0 → ∀ y ∈ el.lines (t + 1), y.2.length ≤ 1000000 := fun h y hy => hll y (List.mem_append_left _ (List.mem_cons_of_mem _ (List.mem_append_right _ (List.mem_append_left _ (by rw [if_neg h]; exact List.mem_cons_of_mem _ hy)))))
          clear hB1 hsg hll hsg1 hbl
          go_upto_region 8 with fail
          go_cut [39] from 31 to 38 (fun s39 wx => ∃ v, s39 = .bool (!v) ∧ Hid (Shown J Jx L (e + 1 + lb) v wx))
          case first =>
            refine (wpIn_wide (n := M + 1)).1 ?_
            gi_region_with (first
              | (refine ⟨trivial, ?_⟩; refine (callsIn_wide.2 (HBd.out _ HJd.out)).mono ?_; rintro z w3 ⟨v, rfl, hj⟩))
            all_goals (gi_wp2_with fail; go_meet; exact ⟨v, rfl, Lib.hid hj⟩)
          case rest =>
            obtain ⟨v, rfl, hj⟩ := hcut
            clear ys z14 HJd HBd HJ1
            rcases hj.out with ⟨rfl, hj1⟩ | ⟨rfl, hj1⟩
            rotate_left
            · have HX1 := Lib.hid hj1
              clear hj1 hj
              go_wp2_with fail
              go_ret
              exact ⟨false, rfl, .inr ⟨rfl, HX1.out⟩⟩
            have HJ2 := Lib.hid hj1
            clear hj1 hj
            have hB2 := HBl.out _ _ HJ2.out
            have z15 := (hB2.cell hb).trans xl
            have HJd2 := Lib.hid (HE.out.mv _ wc wc.drew HJ2.out ⟨(Below.refl _ wc).drew, fun _ _ h _ => h⟩)
            go_upto_region 10 with fail
            go_cut [62] from 40 to 61 (fun s62 wx => ∃ q, s62 = .bool (!q) ∧ Hid (Shown J Jx L e3 q wx))
            case first =>
              rename_i ab wcb l8 l7 l6 l5 l4 l3 l2 l1 l0 hh1 hh0 K1 a1 K2 a2 JQ KQ hJQ hKQ
              clear a1 a2 ab l8 l7 l6 l5 l4 l3 l2 l1 l0 hh1 hh0 HLS HSeg HLen HTot HJ hmem HX hmx hel he1 hll2 hlb HR S1 hbk hyes hB2 x0 xb sb hk hlt hm1 hlast hie hE hsgR hto
              refine (wpIn_wide (n := M + 1)).1 ?_
              by_cases h0 : el.len = 0
              · rw [h0] at z15
                rw [if_pos h0, Nat.add_zero] at he3
                refine wpIn_region_any (by kernel_rfl) ?_
                try (change wpAnyIn _ _ _ _ _ _ _ _ _ (World.drew _))
                refine wpAnyIn_take (i := 0) (oi := ⟨some 40, .move (.tmp 9), 145, "lines.go:63", #[], none⟩) (v := ?_) rfl rfl (by kernel_rfl) (by kernel_rfl) (by kernel_rfl) (fun _ _ _ h => h) ⟨Or.inl ⟨by rfl, ?_⟩, fun _ => rfl⟩ ?_
                rotate_left
                · (intro w; go_simp; try with_reducible rfl)
                try simp only [Act.put, List.setIfInBounds_toArray, List.set_cons_zero, List.set_cons_succ]
                refine wpAnyIn_take (i := 1) (oi := ⟨some 41, .nilCheck (.tmp 40), 0, "lines.go:63", #[⟨0, .data⟩], none⟩) (v := ?_) rfl rfl (by kernel_rfl) (by kernel_rfl) (by kernel_rfl) (fun _ _ _ h => h) ⟨Or.inl ⟨by rfl, ?_⟩, fun _ => rfl⟩ ?_
                rotate_left
                · (intro w; go_simp; try with_reducible rfl)
                try simp only [Act.put, List.setIfInBounds_toArray, List.set_cons_zero, List.set_cons_succ]
                refine wpAnyIn_take (i := 2) (oi := ⟨some 42, .fieldAddr 54 (.tmp 41) 9, 0, "lines.go:63", #[⟨1, .data⟩], none⟩) (v := ?_) rfl rfl (by kernel_rfl) (by kernel_rfl) (by kernel_rfl) (fun _ _ _ h => h) ⟨Or.inl ⟨by rfl, ?_⟩, fun _ => rfl⟩ ?_
                rotate_left
                · (intro w; go_simp; try with_reducible rfl)
                try simp only [Act.put, List.setIfInBounds_toArray, List.set_cons_zero, List.set_cons_succ]
                refine wpAnyIn_ready (rs := [3]) (by kernel_rfl) (by simp) ?_
                refine AllReadyIn.cons (o := ⟨some 43, .load 47 (.tmp 42), 47, "lines.go:63", #[⟨2, .data⟩], none⟩) rfl (fun K hK => ?_) AllReadyIn.nil
                go_simp
                refine hK _ _ ?_
                clear hK K
                try simp only [Act.put, List.setIfInBounds_toArray, List.set_cons_zero, List.set_cons_succ]
                refine wpAnyIn_ready (rs := [4]) (by kernel_rfl) (by simp) ?_
                refine AllReadyIn.cons (o := ⟨some 44, .call { callee := .builtin .len, args := #[.tmp 43], argTypes := #[47] }, 3, "lines.go:63", #[⟨3, .data⟩], none⟩) rfl (fun K hK => ?_) AllReadyIn.nil
                go_simp
                refine hK _ _ ?_
                clear hK K
                try simp only [Act.put, List.setIfInBounds_toArray, List.set_cons_zero, List.set_cons_succ]
                refine wpAnyIn_take (i := 5) (oi := ⟨some 45, .binOp .gtr 3 (.tmp 44) (.const (.int .i64 0)) 3, 4, "lines.go:63", #[⟨4, .data⟩], none⟩) (v := .bool false) rfl rfl (by kernel_rfl) (by kernel_rfl) (by kernel_rfl) (fun _ _ _ h => h) ⟨Or.inl ⟨by rfl, ?_⟩, fun _ => rfl⟩ ?_
                · (intro w; go_simp)
                try simp only [Act.put, List.setIfInBounds_toArray, List.set_cons_zero, List.set_cons_succ]
                refine wpAnyIn_take (i := 6) (oi := ⟨some 46, .move (.tmp 45), 4, "lines.go:63", #[⟨5, .data⟩], none⟩) (v := ?_) rfl rfl (by kernel_rfl) (by kernel_rfl) (by kernel_rfl) (fun _ _ _ h => h) ⟨Or.inl ⟨by rfl, ?_⟩, fun _ => rfl⟩ ?_
                rotate_left
                · (intro w; go_simp; try with_reducible rfl)
                try simp only [Act.put, List.setIfInBounds_toArray, List.set_cons_zero, List.set_cons_succ]
                refine wpAnyIn_take (i := 7) (oi := ⟨some 47, .load 117 (.tmp 2), 117, "lines.go:63", #[⟨6, .guard⟩], some (6, Bool.true)⟩) (v := undef) rfl rfl (by kernel_rfl) (by kernel_rfl) (by kernel_rfl) (fun _ _ _ h => h) ⟨Or.inr ⟨by rfl, rfl⟩, fun _ => rfl⟩ ?_
                try simp only [Act.put, List.setIfInBounds_toArray, List.set_cons_zero, List.set_cons_succ]
                refine wpAnyIn_take (i := 8) (oi := ⟨some 48, .move (.tmp 1), 3, "lines.go:63", #[⟨6, .guard⟩], some (6, Bool.true)⟩) (v := undef) rfl rfl (by kernel_rfl) (by kernel_rfl) (by kernel_rfl) (fun _ _ _ h => h) ⟨Or.inr ⟨by rfl, rfl⟩, fun _ => rfl⟩ ?_
                try simp only [Act.put, List.setIfInBounds_toArray, List.set_cons_zero, List.set_cons_succ]
                refine wpAnyIn_take (i := 9) (oi := ⟨some 49, .call { callee := .value (.tmp 47), args := #[.tmp 48, .const (.string ⟨#[125, 32, 101, 108, 115, 101, 32, 123]⟩)], argTypes := #[3, 9] }, 4, "lines.go:63", #[⟨7, .data⟩, ⟨8, .data⟩, ⟨6, .chain⟩, ⟨6, .guard⟩], some (6, Bool.true)⟩) (v := undef) rfl rfl (by kernel_rfl) (by kernel_rfl) (by kernel_rfl) (fun _ _ _ h => h) ⟨Or.inr ⟨by rfl, rfl⟩, fun _ => rfl⟩ ?_
                try simp only [Act.put, List.setIfInBounds_toArray, List.set_cons_zero, List.set_cons_succ]
                refine wpAnyIn_take (i := 10) (oi := ⟨some 50, .unOp .not 4 (.tmp 49), 4, "lines.go:63", #[⟨9, .data⟩, ⟨6, .guard⟩], some (6, Bool.true)⟩) (v := undef) rfl rfl (by kernel_rfl) (by kernel_rfl) (by kernel_rfl) (fun _ _ _ h => h) ⟨Or.inr ⟨by rfl, rfl⟩, fun _ => rfl⟩ ?_
                try simp only [Act.put, List.setIfInBounds_toArray, List.set_cons_zero, List.set_cons_succ]
                refine wpAnyIn_take (i := 11) (oi := ⟨some 51, .move (.tmp 50), 4, "lines.go:63", #[⟨10, .data⟩, ⟨9, .chain⟩, ⟨6, .guard⟩], some (6, Bool.true)⟩) (v := undef) rfl rfl (by kernel_rfl) (by kernel_rfl) (by kernel_rfl) (fun _ _ _ h => h) ⟨Or.inr ⟨by rfl, rfl⟩, fun _ => rfl⟩ ?_
                try simp only [Act.put, List.setIfInBounds_toArray, List.set_cons_zero, List.set_cons_succ]
                refine wpAnyIn_take (i := 12) (oi := ⟨some 52, .load 55 (.tmp 4), 55, "lines.go:63", #[⟨11, .guard⟩], some (11, Bool.false)⟩) (v := undef) rfl rfl (by kernel_rfl) (by kernel_rfl) (by kernel_rfl) (fun _ _ _ h => h) ⟨Or.inr ⟨by rfl, rfl⟩, fun _ => rfl⟩ ?_
                try simp only [Act.put, List.setIfInBounds_toArray, List.set_cons_zero, List.set_cons_succ]
                refine wpAnyIn_take (i := 13) (oi := ⟨some 53, .move (.tmp 9), 145, "lines.go:63", #[⟨11, .guard⟩], some (11, Bool.false)⟩) (v := undef) rfl rfl (by kernel_rfl) (by kernel_rfl) (by kernel_rfl) (fun _ _ _ h => h) ⟨Or.inr ⟨by rfl, rfl⟩, fun _ => rfl⟩ ?_
                try simp only [Act.put, List.setIfInBounds_toArray, List.set_cons_zero, List.set_cons_succ]
                refine wpAnyIn_take (i := 14) (oi := ⟨some 54, .nilCheck (.tmp 53), 0, "lines.go:63", #[⟨13, .data⟩, ⟨11, .guard⟩], some (11, Bool.false)⟩) (v := undef) rfl rfl (by kernel_rfl) (by kernel_rfl) (by kernel_rfl) (fun _ _ _ h => h) ⟨Or.inr ⟨by rfl, rfl⟩, fun _ => rfl⟩ ?_
                try simp only [Act.put, List.setIfInBounds_toArray, List.set_cons_zero, List.set_cons_succ]
                refine wpAnyIn_take (i := 15) (oi := ⟨some 55, .fieldAddr 54 (.tmp 54) 9, 0, "lines.go:63", #[⟨14, .data⟩, ⟨11, .guard⟩], some (11, Bool.false)⟩) (v := undef) rfl rfl (by kernel_rfl) (by kernel_rfl) (by kernel_rfl) (fun _ _ _ h => h) ⟨Or.inr ⟨by rfl, rfl⟩, fun _ => rfl⟩ ?_
                try simp only [Act.put, List.setIfInBounds_toArray, List.set_cons_zero, List.set_cons_succ]
                refine wpAnyIn_take (i := 16) (oi := ⟨some 56, .load 47 (.tmp 55), 47, "lines.go:63", #[⟨15, .data⟩, ⟨11, .guard⟩], some (11, Bool.false)⟩) (v := undef) rfl rfl (by kernel_rfl) (by kernel_rfl) (by kernel_rfl) (fun _ _ _ h => h) ⟨Or.inr ⟨by rfl, rfl⟩, fun _ => rfl⟩ ?_
                try simp only [Act.put, List.setIfInBounds_toArray, List.set_cons_zero, List.set_cons_succ]
                refine wpAnyIn_take (i := 17) (oi := ⟨some 57, .move (.tmp 1), 3, "lines.go:63", #[⟨11, .guard⟩], some (11, Bool.false)⟩) (v := undef) rfl rfl (by kernel_rfl) (by kernel_rfl) (by kernel_rfl) (fun _ _ _ h => h) ⟨Or.inr ⟨by rfl, rfl⟩, fun _ => rfl⟩ ?_
                try simp only [Act.put, List.setIfInBounds_toArray, List.set_cons_zero, List.set_cons_succ]
                refine wpAnyIn_take (i := 18) (oi := ⟨some 58, .binOp .add 3 (.tmp 57) (.const (.int .i64 1)) 3, 3, "lines.go:63", #[⟨17, .data⟩, ⟨11, .guard⟩], some (11, Bool.false)⟩) (v := undef) rfl rfl (by kernel_rfl) (by kernel_rfl) (by kernel_rfl) (fun _ _ _ h => h) ⟨Or.inr ⟨by rfl, rfl⟩, fun _ => rfl⟩ ?_
                try simp only [Act.put, List.setIfInBounds_toArray, List.set_cons_zero, List.set_cons_succ]
                refine wpAnyIn_take (i := 19) (oi := ⟨some 59, .call { callee := .value (.tmp 52), args := #[.tmp 56, .tmp 58], argTypes := #[47, 3] }, 4, "lines.go:63", #[⟨12, .data⟩, ⟨16, .data⟩, ⟨18, .data⟩, ⟨11, .chain⟩, ⟨11, .guard⟩], some (11, Bool.false)⟩) (v := undef) rfl rfl (by kernel_rfl) (by kernel_rfl) (by kernel_rfl) (fun _ _ _ h => h) ⟨Or.inr ⟨by rfl, rfl⟩, fun _ => rfl⟩ ?_
                try simp only [Act.put, List.setIfInBounds_toArray, List.set_cons_zero, List.set_cons_succ]
                refine wpAnyIn_take (i := 20) (oi := ⟨some 60, .unOp .not 4 (.tmp 59), 4, "lines.go:63", #[⟨19, .data⟩, ⟨11, .guard⟩], some (11, Bool.false)⟩) (v := undef) rfl rfl (by kernel_rfl) (by kernel_rfl) (by kernel_rfl) (fun _ _ _ h => h) ⟨Or.inr ⟨by rfl, rfl⟩, fun _ => rfl⟩ ?_
                try simp only [Act.put, List.setIfInBounds_toArray, List.set_cons_zero, List.set_cons_succ]
                refine wpAnyIn_take (i := 21) (oi := ⟨some 61, .pick (.tmp 51) (.const (.bool Bool.true)) (.tmp 60), 4, "lines.go:63", #[⟨11, .data⟩, ⟨20, .data⟩, ⟨6, .guard⟩], some (6, Bool.true)⟩) (v := undef) rfl rfl (by kernel_rfl) (by kernel_rfl) (by kernel_rfl) (fun _ _ _ h => h) ⟨Or.inr ⟨by rfl, rfl⟩, fun _ => rfl⟩ ?_
                try simp only [Act.put, List.setIfInBounds_toArray, List.set_cons_zero, List.set_cons_succ]
                refine wpAnyIn_take (i := 22) (oi := ⟨some 62, .pick (.tmp 46) (.tmp 61) (.const (.bool Bool.false)), 4, "lines.go:63", #[⟨6, .data⟩, ⟨21, .data⟩], none⟩) (v := ?_) rfl rfl (by kernel_rfl) (by kernel_rfl) (by kernel_rfl) (fun _ _ _ h => h) ⟨Or.inl ⟨by rfl, ?_⟩, fun _ => rfl⟩ ?_
                rotate_left
                · (intro w; go_simp; try with_reducible rfl)
                try simp only [Act.put, List.setIfInBounds_toArray, List.set_cons_zero, List.set_cons_succ]
                refine wpAnyIn_done (by kernel_rfl) ?_ _
                gi_wp2_with fail
                go_meet
                exact ⟨true, rfl, Lib.hid (.inl ⟨rfl, he3 ▸ HJd2.out⟩)⟩
              · have hpos : (0 : Int) < (el.len : Int) := by omega
                rw [if_neg h0] at he3
                rw [if_neg h0] at hsg2
                have hyl := HE.out.yl _ _ wc.drew hsg2.left.head HJd2.out
                have hsE := hsg2.left.tail
                have HEl := Lib.hid (fun (w1 : World) (hj : J (e + 1 + lb + 1) w1) => IH.out el (by omega) (t + 1) (e + 1 + lb + 1) pl cl w1 hbm.2.1 (by omega) (fun y hy => hle h0 y hy) sl hsE hj)
                rw [hcast] at HEl
                have hfin : e + 1 + lb + 1 + (el.lines (t + 1)).length = e3 := by omega
                rw [hfin] at HEl
                have hk2 : e + 1 + lb + 1 ≤ L.length := by omega
                have y1 : wc.cell? ⟨qy, 0, none⟩ = some (.func (.yield l) #[] #[]) := cell_of_one (HE.out.cl _ _ HJ2.out).ky
                obtain ⟨fn, tmps, assign, body, hy, hR⟩ := hyl
                simp only [encL] at hy
                rw [show str elseT = ⟨#[125, 32, 101, 108, 115, 101, 32, 123]⟩ from rfl] at hy
                clear hsg2 hsE HJ2 he3 he3L hcast HJd2

                refine wpIn_region_any (by kernel_rfl) ?_
                try (change wpAnyIn _ _ _ _ _ _ _ _ _ (World.drew _))
                refine wpAnyIn_take (i := 0) (oi := ⟨some 40, .move (.tmp 9), 145, "lines.go:63", #[], none⟩) (v := ?_) rfl rfl (by kernel_rfl) (by kernel_rfl) (by kernel_rfl) (fun _ _ _ h => h) ⟨Or.inl ⟨by rfl, ?_⟩, fun _ => rfl⟩ ?_
                rotate_left
                · (intro w; go_simp; try with_reducible rfl)
                try simp only [Act.put, List.setIfInBounds_toArray, List.set_cons_zero, List.set_cons_succ]
                refine wpAnyIn_take (i := 1) (oi := ⟨some 41, .nilCheck (.tmp 40), 0, "lines.go:63", #[⟨0, .data⟩], none⟩) (v := ?_) rfl rfl (by kernel_rfl) (by kernel_rfl) (by kernel_rfl) (fun _ _ _ h => h) ⟨Or.inl ⟨by rfl, ?_⟩, fun _ => rfl⟩ ?_
                rotate_left
                · (intro w; go_simp; try with_reducible rfl)
                try simp only [Act.put, List.setIfInBounds_toArray, List.set_cons_zero, List.set_cons_succ]
                refine wpAnyIn_take (i := 2) (oi := ⟨some 42, .fieldAddr 54 (.tmp 41) 9, 0, "lines.go:63", #[⟨1, .data⟩], none⟩) (v := ?_) rfl rfl (by kernel_rfl) (by kernel_rfl) (by kernel_rfl) (fun _ _ _ h => h) ⟨Or.inl ⟨by rfl, ?_⟩, fun _ => rfl⟩ ?_
                rotate_left
                · (intro w; go_simp; try with_reducible rfl)
                try simp only [Act.put, List.setIfInBounds_toArray, List.set_cons_zero, List.set_cons_succ]
                refine wpAnyIn_ready (rs := [3]) (by kernel_rfl) (by simp) ?_
                refine AllReadyIn.cons (o := ⟨some 43, .load 47 (.tmp 42), 47, "lines.go:63", #[⟨2, .data⟩], none⟩) rfl (fun K hK => ?_) AllReadyIn.nil
                go_simp
                refine hK _ _ ?_
                clear hK K
                try simp only [Act.put, List.setIfInBounds_toArray, List.set_cons_zero, List.set_cons_succ]
                refine wpAnyIn_ready (rs := [4]) (by kernel_rfl) (by simp) ?_
                refine AllReadyIn.cons (o := ⟨some 44, .call { callee := .builtin .len, args := #[.tmp 43], argTypes := #[47] }, 3, "lines.go:63", #[⟨3, .data⟩], none⟩) rfl (fun K hK => ?_) AllReadyIn.nil
                go_simp
                refine hK _ _ ?_
                clear hK K
                try simp only [Act.put, List.setIfInBounds_toArray, List.set_cons_zero, List.set_cons_succ]
                refine wpAnyIn_take (i := 5) (oi := ⟨some 45, .binOp .gtr 3 (.tmp 44) (.const (.int .i64 0)) 3, 4, "lines.go:63", #[⟨4, .data⟩], none⟩) (v := .bool true) rfl rfl (by kernel_rfl) (by kernel_rfl) (by kernel_rfl) (fun _ _ _ h => h) ⟨Or.inl ⟨by rfl, ?_⟩, fun _ => rfl⟩ ?_
                · (intro w; go_simp; omega)
                try simp only [Act.put, List.setIfInBounds_toArray, List.set_cons_zero, List.set_cons_succ]
                refine wpAnyIn_take (i := 6) (oi := ⟨some 46, .move (.tmp 45), 4, "lines.go:63", #[⟨5, .data⟩], none⟩) (v := ?_) rfl rfl (by kernel_rfl) (by kernel_rfl) (by kernel_rfl) (fun _ _ _ h => h) ⟨Or.inl ⟨by rfl, ?_⟩, fun _ => rfl⟩ ?_
                rotate_left
                · (intro w; go_simp; try with_reducible rfl)
                try simp only [Act.put, List.setIfInBounds_toArray, List.set_cons_zero, List.set_cons_succ]
                refine wpAnyIn_take (i := 8) (oi := ⟨some 48, .move (.tmp 1), 3, "lines.go:63", #[⟨6, .guard⟩], some (6, Bool.true)⟩) (v := ?_) rfl rfl (by kernel_rfl) (by kernel_rfl) (by kernel_rfl) (fun _ _ _ h => h) ⟨Or.inl ⟨by rfl, ?_⟩, fun _ => rfl⟩ ?_
                rotate_left
                · (intro w; go_simp; try with_reducible rfl)
                try simp only [Act.put, List.setIfInBounds_toArray, List.set_cons_zero, List.set_cons_succ]
                refine wpAnyIn_ready (rs := [7]) (by kernel_rfl) (by simp) ?_
                refine AllReadyIn.cons (o := ⟨some 47, .load 117 (.tmp 2), 117, "lines.go:63", #[⟨6, .guard⟩], some (6, Bool.true)⟩) rfl (fun K hK => ?_) AllReadyIn.nil
                go_simp
                refine hK _ _ ?_
                clear hK K
                try simp only [Act.put, List.setIfInBounds_toArray, List.set_cons_zero, List.set_cons_succ]
                refine wpAnyIn_ready (rs := [9]) (by kernel_rfl) (by simp) ?_
                refine AllReadyIn.cons (o := ⟨some 49, .call { callee := .value (.tmp 47), args := #[.tmp 48, .const (.string ⟨#[125, 32, 101, 108, 115, 101, 32, 123]⟩)], argTypes := #[3, 9] }, 4, "lines.go:63", #[⟨7, .data⟩, ⟨8, .data⟩, ⟨6, .chain⟩, ⟨6, .guard⟩], some (6, Bool.true)⟩) rfl (fun K hK => ?_) AllReadyIn.nil
                go_simp
                refine hR.mono ?_
                rintro z w3 ⟨v, rfl, hj⟩
                refine hK _ _ ?_
                clear hK K
                try simp only [Act.put, List.setIfInBounds_toArray, List.set_cons_zero, List.set_cons_succ]
                cases v with
                | false =>
                  have HX2 : Hid (Jx (e + 1 + lb + 1) w3) := Lib.hid (by rcases hj with ⟨h, _⟩ | ⟨_, h⟩; cases h; exact h)
                  clear hj HEl z15
                  refine wpAnyIn_take (i := 10) (oi := ⟨some 50, .unOp .not 4 (.tmp 49), 4, "lines.go:63", #[⟨9, .data⟩, ⟨6, .guard⟩], some (6, Bool.true)⟩) (v := ?_) rfl rfl (by kernel_rfl) (by kernel_rfl) (by kernel_rfl) (fun _ _ _ h => h) ⟨Or.inl ⟨by rfl, ?_⟩, fun _ => rfl⟩ ?_
                  rotate_left
                  · (intro w; go_simp; try with_reducible rfl)
                  try simp only [Act.put, List.setIfInBounds_toArray, List.set_cons_zero, List.set_cons_succ]
                  refine wpAnyIn_take (i := 11) (oi := ⟨some 51, .move (.tmp 50), 4, "lines.go:63", #[⟨10, .data⟩, ⟨9, .chain⟩, ⟨6, .guard⟩], some (6, Bool.true)⟩) (v := ?_) rfl rfl (by kernel_rfl) (by kernel_rfl) (by kernel_rfl) (fun _ _ _ h => h) ⟨Or.inl ⟨by rfl, ?_⟩, fun _ => rfl⟩ ?_
                  rotate_left
                  · (intro w; go_simp; try with_reducible rfl)
                  try simp only [Act.put, List.setIfInBounds_toArray, List.set_cons_zero, List.set_cons_succ]
                  refine wpAnyIn_take (i := 12) (oi := ⟨some 52, .load 55 (.tmp 4), 55, "lines.go:63", #[⟨11, .guard⟩], some (11, Bool.false)⟩) (v := undef) rfl rfl (by kernel_rfl) (by kernel_rfl) (by kernel_rfl) (fun _ _ _ h => h) ⟨Or.inr ⟨by rfl, rfl⟩, fun _ => rfl⟩ ?_
                  try simp only [Act.put, List.setIfInBounds_toArray, List.set_cons_zero, List.set_cons_succ]
                  refine wpAnyIn_take (i := 13) (oi := ⟨some 53, .move (.tmp 9), 145, "lines.go:63", #[⟨11, .guard⟩], some (11, Bool.false)⟩) (v := undef) rfl rfl (by kernel_rfl) (by kernel_rfl) (by kernel_rfl) (fun _ _ _ h => h) ⟨Or.inr ⟨by rfl, rfl⟩, fun _ => rfl⟩ ?_
                  try simp only [Act.put, List.setIfInBounds_toArray, List.set_cons_zero, List.set_cons_succ]
                  refine wpAnyIn_take (i := 14) (oi := ⟨some 54, .nilCheck (.tmp 53), 0, "lines.go:63", #[⟨13, .data⟩, ⟨11, .guard⟩], some (11, Bool.false)⟩) (v := undef) rfl rfl (by kernel_rfl) (by kernel_rfl) (by kernel_rfl) (fun _ _ _ h => h) ⟨Or.inr ⟨by rfl, rfl⟩, fun _ => rfl⟩ ?_
                  try simp only [Act.put, List.setIfInBounds_toArray, List.set_cons_zero, List.set_cons_succ]
                  refine wpAnyIn_take (i := 15) (oi := ⟨some 55, .fieldAddr 54 (.tmp 54) 9, 0, "lines.go:63", #[⟨14, .data⟩, ⟨11, .guard⟩], some (11, Bool.false)⟩) (v := undef) rfl rfl (by kernel_rfl) (by kernel_rfl) (by kernel_rfl) (fun _ _ _ h => h) ⟨Or.inr ⟨by rfl, rfl⟩, fun _ => rfl⟩ ?_
                  try simp only [Act.put, List.setIfInBounds_toArray, List.set_cons_zero, List.set_cons_succ]
                  refine wpAnyIn_take (i := 16) (oi := ⟨some 56, .load 47 (.tmp 55), 47, "lines.go:63", #[⟨15, .data⟩, ⟨11, .guard⟩], some (11, Bool.false)⟩) (v := undef) rfl rfl (by kernel_rfl) (by kernel_rfl) (by kernel_rfl) (fun _ _ _ h => h) ⟨Or.inr ⟨by rfl, rfl⟩, fun _ => rfl⟩ ?_
                  try simp only [Act.put, List.setIfInBounds_toArray, List.set_cons_zero, List.set_cons_succ]
                  refine wpAnyIn_take (i := 17) (oi := ⟨some 57, .move (.tmp 1), 3, "lines.go:63", #[⟨11, .guard⟩], some (11, Bool.false)⟩) (v := undef) rfl rfl (by kernel_rfl) (by kernel_rfl) (by kernel_rfl) (fun _ _ _ h => h) ⟨Or.inr ⟨by rfl, rfl⟩, fun _ => rfl⟩ ?_
                  try simp only [Act.put, List.setIfInBounds_toArray, List.set_cons_zero, List.set_cons_succ]
                  refine wpAnyIn_take (i := 18) (oi := ⟨some 58, .binOp .add 3 (.tmp 57) (.const (.int .i64 1)) 3, 3, "lines.go:63", #[⟨17, .data⟩, ⟨11, .guard⟩], some (11, Bool.false)⟩) (v := undef) rfl rfl (by kernel_rfl) (by kernel_rfl) (by kernel_rfl) (fun _ _ _ h => h) ⟨Or.inr ⟨by rfl, rfl⟩, fun _ => rfl⟩ ?_
                  try simp only [Act.put, List.setIfInBounds_toArray, List.set_cons_zero, List.set_cons_succ]
                  refine wpAnyIn_take (i := 19) (oi := ⟨some 59, .call { callee := .value (.tmp 52), args := #[.tmp 56, .tmp 58], argTypes := #[47, 3] }, 4, "lines.go:63", #[⟨12, .data⟩, ⟨16, .data⟩, ⟨18, .data⟩, ⟨11, .chain⟩, ⟨11, .guard⟩], some (11, Bool.false)⟩) (v := undef) rfl rfl (by kernel_rfl) (by kernel_rfl) (by kernel_rfl) (fun _ _ _ h => h) ⟨Or.inr ⟨by rfl, rfl⟩, fun _ => rfl⟩ ?_
                  try simp only [Act.put, List.setIfInBounds_toArray, List.set_cons_zero, List.set_cons_succ]
                  refine wpAnyIn_take (i := 20) (oi := ⟨some 60, .unOp .not 4 (.tmp 59), 4, "lines.go:63", #[⟨19, .data⟩, ⟨11, .guard⟩], some (11, Bool.false)⟩) (v := undef) rfl rfl (by kernel_rfl) (by kernel_rfl) (by kernel_rfl) (fun _ _ _ h => h) ⟨Or.inr ⟨by rfl, rfl⟩, fun _ => rfl⟩ ?_
                  try simp only [Act.put, List.setIfInBounds_toArray, List.set_cons_zero, List.set_cons_succ]
                  refine wpAnyIn_take (i := 21) (oi := ⟨some 61, .pick (.tmp 51) (.const (.bool Bool.true)) (.tmp 60), 4, "lines.go:63", #[⟨11, .data⟩, ⟨20, .data⟩, ⟨6, .guard⟩], some (6, Bool.true)⟩) (v := ?_) rfl rfl (by kernel_rfl) (by kernel_rfl) (by kernel_rfl) (fun _ _ _ h => h) ⟨Or.inl ⟨by rfl, ?_⟩, fun _ => rfl⟩ ?_
                  rotate_left
                  · (intro w; go_simp; try with_reducible rfl)
                  try simp only [Act.put, List.setIfInBounds_toArray, List.set_cons_zero, List.set_cons_succ]
                  refine wpAnyIn_take (i := 22) (oi := ⟨some 62, .pick (.tmp 46) (.tmp 61) (.const (.bool Bool.false)), 4, "lines.go:63", #[⟨6, .data⟩, ⟨21, .data⟩], none⟩) (v := ?_) rfl rfl (by kernel_rfl) (by kernel_rfl) (by kernel_rfl) (fun _ _ _ h => h) ⟨Or.inl ⟨by rfl, ?_⟩, fun _ => rfl⟩ ?_
                  rotate_left
                  · (intro w; go_simp; try with_reducible rfl)
                  try simp only [Act.put, List.setIfInBounds_toArray, List.set_cons_zero, List.set_cons_succ]
                  refine wpAnyIn_done (by kernel_rfl) ?_ _
                  gi_wp2_with fail
                  go_meet
                  exact ⟨false, rfl, Lib.hid (.inr ⟨rfl, _, hk2, HX2.out⟩)⟩
                | true =>
                  have HJ3 : Hid (J (e + 1 + lb + 1) w3) := Lib.hid (by rcases hj with ⟨_, h⟩ | ⟨h, _⟩; exact h; cases h)
                  have ys : w3.cell? ⟨qs, 0, none⟩ = some (.func (.func 108) #[] #[.pointer (some ⟨qy, 0, none⟩), .pointer (some ⟨qt, 0, none⟩), .pointer (some ⟨qs, 0, none⟩)]) := cell_of_one (HE.out.cl _ _ HJ3.out).ks
                  have z15 := ((HBl.out _ _ HJ3.out).cell hb).trans xl
                  have HC := Lib.hid (HEl.out _ HJ3.out)
                  clear hj
                  refine wpAnyIn_take (i := 10) (oi := ⟨some 50, .unOp .not 4 (.tmp 49), 4, "lines.go:63", #[⟨9, .data⟩, ⟨6, .guard⟩], some (6, Bool.true)⟩) (v := ?_) rfl rfl (by kernel_rfl) (by kernel_rfl) (by kernel_rfl) (fun _ _ _ h => h) ⟨Or.inl ⟨by rfl, ?_⟩, fun _ => rfl⟩ ?_
                  rotate_left
                  · (intro w; go_simp; try with_reducible rfl)
                  try simp only [Act.put, List.setIfInBounds_toArray, List.set_cons_zero, List.set_cons_succ]
                  refine wpAnyIn_take (i := 11) (oi := ⟨some 51, .move (.tmp 50), 4, "lines.go:63", #[⟨10, .data⟩, ⟨9, .chain⟩, ⟨6, .guard⟩], some (6, Bool.true)⟩) (v := ?_) rfl rfl (by kernel_rfl) (by kernel_rfl) (by kernel_rfl) (fun _ _ _ h => h) ⟨Or.inl ⟨by rfl, ?_⟩, fun _ => rfl⟩ ?_
                  rotate_left
                  · (intro w; go_simp; try with_reducible rfl)
                  try simp only [Act.put, List.setIfInBounds_toArray, List.set_cons_zero, List.set_cons_succ]
                  refine wpAnyIn_take (i := 13) (oi := ⟨some 53, .move (.tmp 9), 145, "lines.go:63", #[⟨11, .guard⟩], some (11, Bool.false)⟩) (v := ?_) rfl rfl (by kernel_rfl) (by kernel_rfl) (by kernel_rfl) (fun _ _ _ h => h) ⟨Or.inl ⟨by rfl, ?_⟩, fun _ => rfl⟩ ?_
                  rotate_left
                  · (intro w; go_simp; try with_reducible rfl)
                  try simp only [Act.put, List.setIfInBounds_toArray, List.set_cons_zero, List.set_cons_succ]
                  refine wpAnyIn_take (i := 14) (oi := ⟨some 54, .nilCheck (.tmp 53), 0, "lines.go:63", #[⟨13, .data⟩, ⟨11, .guard⟩], some (11, Bool.false)⟩) (v := ?_) rfl rfl (by kernel_rfl) (by kernel_rfl) (by kernel_rfl) (fun _ _ _ h => h) ⟨Or.inl ⟨by rfl, ?_⟩, fun _ => rfl⟩ ?_
                  rotate_left
                  · (intro w; go_simp; try with_reducible rfl)
                  try simp only [Act.put, List.setIfInBounds_toArray, List.set_cons_zero, List.set_cons_succ]
                  refine wpAnyIn_take (i := 15) (oi := ⟨some 55, .fieldAddr 54 (.tmp 54) 9, 0, "lines.go:63", #[⟨14, .data⟩, ⟨11, .guard⟩], some (11, Bool.false)⟩) (v := ?_) rfl rfl (by kernel_rfl) (by kernel_rfl) (by kernel_rfl) (fun _ _ _ h => h) ⟨Or.inl ⟨by rfl, ?_⟩, fun _ => rfl⟩ ?_
                  rotate_left
                  · (intro w; go_simp; try with_reducible rfl)
                  try simp only [Act.put, List.setIfInBounds_toArray, List.set_cons_zero, List.set_cons_succ]
                  refine wpAnyIn_take (i := 17) (oi := ⟨some 57, .move (.tmp 1), 3, "lines.go:63", #[⟨11, .guard⟩], some (11, Bool.false)⟩) (v := ?_) rfl rfl (by kernel_rfl) (by kernel_rfl) (by kernel_rfl) (fun _ _ _ h => h) ⟨Or.inl ⟨by rfl, ?_⟩, fun _ => rfl⟩ ?_
                  rotate_left
                  · (intro w; go_simp; try with_reducible rfl)
                  try simp only [Act.put, List.setIfInBounds_toArray, List.set_cons_zero, List.set_cons_succ]
                  refine wpAnyIn_take (i := 18) (oi := ⟨some 58, .binOp .add 3 (.tmp 57) (.const (.int .i64 1)) 3, 3, "lines.go:63", #[⟨17, .data⟩, ⟨11, .guard⟩], some (11, Bool.false)⟩) (v := ?_) rfl rfl (by kernel_rfl) (by kernel_rfl) (by kernel_rfl) (fun _ _ _ h => h) ⟨Or.inl ⟨by rfl, ?_⟩, fun _ => rfl⟩ ?_
                  rotate_left
                  · (intro w; go_simp; try with_reducible rfl)
                  try simp only [Act.put, List.setIfInBounds_toArray, List.set_cons_zero, List.set_cons_succ]
                  refine wpAnyIn_ready (rs := [12, 16]) (by kernel_rfl) (by simp) ?_
                  refine AllReadyIn.cons (o := ⟨some 52, .load 55 (.tmp 4), 55, "lines.go:63", #[⟨11, .guard⟩], some (11, Bool.false)⟩) rfl (fun K hK => ?_) (AllReadyIn.cons (o := ⟨some 56, .load 47 (.tmp 55), 47, "lines.go:63", #[⟨15, .data⟩, ⟨11, .guard⟩], some (11, Bool.false)⟩) rfl (fun K hK => ?_) AllReadyIn.nil)
                  · go_simp
                    refine hK _ _ ?_
                    clear hK K
                    try simp only [Act.put, List.setIfInBounds_toArray, List.set_cons_zero, List.set_cons_succ]
                    refine wpAnyIn_ready (rs := [16]) (by kernel_rfl) (by simp) ?_
                    refine AllReadyIn.cons (o := ⟨some 56, .load 47 (.tmp 55), 47, "lines.go:63", #[⟨15, .data⟩, ⟨11, .guard⟩], some (11, Bool.false)⟩) rfl (fun K hK => ?_) AllReadyIn.nil
                    go_simp
                    refine hK _ _ ?_
                    clear hK K
                    try simp only [Act.put, List.setIfInBounds_toArray, List.set_cons_zero, List.set_cons_succ]
                    refine wpAnyIn_ready (rs := [19]) (by kernel_rfl) (by simp) ?_
                    refine AllReadyIn.cons (o := ⟨some 59, .call { callee := .value (.tmp 52), args := #[.tmp 56, .tmp 58], argTypes := #[47, 3] }, 4, "lines.go:63", #[⟨12, .data⟩, ⟨16, .data⟩, ⟨18, .data⟩, ⟨11, .chain⟩, ⟨11, .guard⟩], some (11, Bool.false)⟩) rfl (fun K hK => ?_) AllReadyIn.nil
                    go_simp
                    refine ⟨trivial, ?_⟩
                    refine (callsIn_wide.2 HC.out).mono ?_
                    rintro z w4 ⟨v4, rfl, hs4⟩
                    refine hK _ _ ?_
                    clear hK K
                    try simp only [Act.put, List.setIfInBounds_toArray, List.set_cons_zero, List.set_cons_succ]
                    refine wpAnyIn_take (i := 20) (oi := ⟨some 60, .unOp .not 4 (.tmp 59), 4, "lines.go:63", #[⟨19, .data⟩, ⟨11, .guard⟩], some (11, Bool.false)⟩) (v := ?_) rfl rfl (by kernel_rfl) (by kernel_rfl) (by kernel_rfl) (fun _ _ _ h => h) ⟨Or.inl ⟨by rfl, ?_⟩, fun _ => rfl⟩ ?_
                    rotate_left
                    · (intro w; go_simp; try with_reducible rfl)
                    try simp only [Act.put, List.setIfInBounds_toArray, List.set_cons_zero, List.set_cons_succ]
                    refine wpAnyIn_take (i := 21) (oi := ⟨some 61, .pick (.tmp 51) (.const (.bool Bool.true)) (.tmp 60), 4, "lines.go:63", #[⟨11, .data⟩, ⟨20, .data⟩, ⟨6, .guard⟩], some (6, Bool.true)⟩) (v := ?_) rfl rfl (by kernel_rfl) (by kernel_rfl) (by kernel_rfl) (fun _ _ _ h => h) ⟨Or.inl ⟨by rfl, ?_⟩, fun _ => rfl⟩ ?_
                    rotate_left
                    · (intro w; go_simp; try with_reducible rfl)
                    try simp only [Act.put, List.setIfInBounds_toArray, List.set_cons_zero, List.set_cons_succ]
                    refine wpAnyIn_take (i := 22) (oi := ⟨some 62, .pick (.tmp 46) (.tmp 61) (.const (.bool Bool.false)), 4, "lines.go:63", #[⟨6, .data⟩, ⟨21, .data⟩], none⟩) (v := ?_) rfl rfl (by kernel_rfl) (by kernel_rfl) (by kernel_rfl) (fun _ _ _ h => h) ⟨Or.inl ⟨by rfl, ?_⟩, fun _ => rfl⟩ ?_
                    rotate_left
                    · (intro w; go_simp; try with_reducible rfl)
                    try simp only [Act.put, List.setIfInBounds_toArray, List.set_cons_zero, List.set_cons_succ]
                    refine wpAnyIn_done (by kernel_rfl) ?_ _
                    gi_wp2_with fail
                    go_meet
                    exact ⟨v4, rfl, Lib.hid (hs4)⟩
                  · go_simp
                    refine hK _ _ ?_
                    clear hK K
                    try simp only [Act.put, List.setIfInBounds_toArray, List.set_cons_zero, List.set_cons_succ]
                    refine wpAnyIn_ready (rs := [12]) (by kernel_rfl) (by simp) ?_
                    refine AllReadyIn.cons (o := ⟨some 52, .load 55 (.tmp 4), 55, "lines.go:63", #[⟨11, .guard⟩], some (11, Bool.false)⟩) rfl (fun K hK => ?_) AllReadyIn.nil
                    go_simp
                    refine hK _ _ ?_
                    clear hK K
                    try simp only [Act.put, List.setIfInBounds_toArray, List.set_cons_zero, List.set_cons_succ]
                    refine wpAnyIn_ready (rs := [19]) (by kernel_rfl) (by simp) ?_
                    refine AllReadyIn.cons (o := ⟨some 59, .call { callee := .value (.tmp 52), args := #[.tmp 56, .tmp 58], argTypes := #[47, 3] }, 4, "lines.go:63", #[⟨12, .data⟩, ⟨16, .data⟩, ⟨18, .data⟩, ⟨11, .chain⟩, ⟨11, .guard⟩], some (11, Bool.false)⟩) rfl (fun K hK => ?_) AllReadyIn.nil
                    go_simp
                    refine ⟨trivial, ?_⟩
                    refine (callsIn_wide.2 HC.out).mono ?_
                    rintro z w4 ⟨v4, rfl, hs4⟩
                    refine hK _ _ ?_
                    clear hK K
                    try simp only [Act.put, List.setIfInBounds_toArray, List.set_cons_zero, List.set_cons_succ]
                    refine wpAnyIn_take (i := 20) (oi := ⟨some 60, .unOp .not 4 (.tmp 59), 4, "lines.go:63", #[⟨19, .data⟩, ⟨11, .guard⟩], some (11, Bool.false)⟩) (v := ?_) rfl rfl (by kernel_rfl) (by kernel_rfl) (by kernel_rfl) (fun _ _ _ h => h) ⟨Or.inl ⟨by rfl, ?_⟩, fun _ => rfl⟩ ?_
                    rotate_left
                    · (intro w; go_simp; try with_reducible rfl)
                    try simp only [Act.put, List.setIfInBounds_toArray, List.set_cons_zero, List.set_cons_succ]
                    refine wpAnyIn_take (i := 21) (oi := ⟨some 61, .pick (.tmp 51) (.const (.bool Bool.true)) (.tmp 60), 4, "lines.go:63", #[⟨11, .data⟩, ⟨20, .data⟩, ⟨6, .guard⟩], some (6, Bool.true)⟩) (v := ?_) rfl rfl (by kernel_rfl) (by kernel_rfl) (by kernel_rfl) (fun _ _ _ h => h) ⟨Or.inl ⟨by rfl, ?_⟩, fun _ => rfl⟩ ?_
                    rotate_left
                    · (intro w; go_simp; try with_reducible rfl)
                    try simp only [Act.put, List.setIfInBounds_toArray, List.set_cons_zero, List.set_cons_succ]
                    refine wpAnyIn_take (i := 22) (oi := ⟨some 62, .pick (.tmp 46) (.tmp 61) (.const (.bool Bool.false)), 4, "lines.go:63", #[⟨6, .data⟩, ⟨21, .data⟩], none⟩) (v := ?_) rfl rfl (by kernel_rfl) (by kernel_rfl) (by kernel_rfl) (fun _ _ _ h => h) ⟨Or.inl ⟨by rfl, ?_⟩, fun _ => rfl⟩ ?_
                    rotate_left
                    · (intro w; go_simp; try with_reducible rfl)
                    try simp only [Act.put, List.setIfInBounds_toArray, List.set_cons_zero, List.set_cons_succ]
                    refine wpAnyIn_done (by kernel_rfl) ?_ _
                    gi_wp2_with fail
                    go_meet
                    exact ⟨v4, rfl, Lib.hid (hs4)⟩
            case rest =>
              obtain ⟨q, rfl, hj⟩ := hcut
              clear z15 HJd2 HJ2 hB2
              rcases hj.out with ⟨rfl, hj1⟩ | ⟨rfl, hj1⟩
              rotate_left
              · have HX1 := Lib.hid hj1
                clear hj1 hj
                go_wp2_with fail
                go_ret
                exact ⟨false, rfl, .inr ⟨rfl, HX1.out⟩⟩
              have HJ3 := Lib.hid hj1
              clear hj1 hj
              have HS2 := Lib.hid (show Seg L (e3 + 1) (r.flatMap (fun x => x.lines t)) ∧ e3 + 1 + (r.flatMap (fun x => x.lines t)).length = tot ∧ ∀ y ∈ r.flatMap (fun x => x.lines t), y.2.length ≤ 1000000 from ⟨hsgR, hto, hll2⟩)
              have y1 : wc.cell? ⟨qy, 0, none⟩ = some (.func (.yield l) #[] #[]) := cell_of_one (HE.out.cl _ _ HJ3.out).ky
              have hyl := Lib.hid (HE.out.yl _ _ wc hlast HJ3.out)
              clear hsg2 hsgR hto hll2 hlast hie hE hle
              go_upto_region 12 with fail
              refine (wpIn_wide (n := M + 1)).1 ?_
              obtain ⟨fn, tmps, assign, body, hy, hR⟩ := hyl.out
              simp only [encL] at hy
              rw [show str [125] = ⟨#[125]⟩ from rfl] at hy
              gi_wp2_with fail
              refine hR.mono ?_
              rintro z w3 ⟨v, rfl, hj⟩
              clear hy hR y1
              rcases hj with ⟨rfl, hj1⟩ | ⟨rfl, hj1⟩
              · have HJ4 := Lib.hid hj1
                clear hj1
                gi_wp2_with fail
                go_wp2_with fail
                go_roundw
                case rel => exact ⟨k + 1, e3 + 1, r, by go_num, by omega, Lib.hid fun x hx => hmem.out x (List.mem_cons_of_mem _ hx), Lib.hid fun b' o' e' _ => by cases e'; rw [show o + (k + 1) * 16 = o + k * 16 + 16 by omega]; exact HR.out, HS2, HJ4⟩
                case measure => simp [intOf]; omega
              · have HX4 := Lib.hid hj1
                clear hj1
                gi_wp2_with fail
                go_wp2_with fail
                go_ret
                exact ⟨false, rfl, .inr ⟨rfl, e3 + 1, he3L, HX4.out⟩⟩
end Go.Proofs.YtlhbledakddbbaaGreatDoor
/- The lines of any statements, as an iterator hands them on. -/
namespace Go.Proofs.YtlhbledakddbbaaGreatDoor
open Go.RowKit
attribute [local go_sem] Oper.semAt_some

theorem stmtLines_any (p : Option Addr) (n c : Nat) (w : World) : Calls Tryz.prog 72 #[.slice p n c] w fun e w' => ∃ bx, e = .returned (.func (.func 107) #[] #[.pointer (some ⟨bx, 0, none⟩)]) ∧ w'.heap[bx]? = some (.cells #[.slice p n c] 47 (0, 0)) ∧ w.heap.size ≤ bx ∧ Below w.heap.size w w' := by
  go_enter Tryz.func72, Tryz.ntmps72
  go_wp2_with fail
  go_ret
  exact ⟨_, rfl, heap_alloc_new w _, Nat.le_refl _, (Below.refl _ w).alloc (Nat.le_refl _) _⟩
theorem shn_all {l M N qy qt qs m : Nat} {w0 : World} {L : List (Nat × List UInt8)} {J Jx : Nat → World → Prop} (E : ShEnv l M N qy qt qs m w0 L J Jx) : ∀ n, ShN qy qt qs w0 L J Jx n
  | 0 => fun _ h => by omega
  | n + 1 => shn_step E n (shn_all E n)
theorem buf_teller (c : Array Value) (fr : Nat × Nat) : ¬ isBuf (.cells c 68 fr) := by intro h; rcases h with h | h <;> exact absurd h (by decide)
theorem buf_show (c : Array Value) (fr : Nat × Nat) : ¬ isBuf (.cells c 55 fr) := by intro h; rcases h with h | h <;> exact absurd h (by decide)
theorem newTeller_new (w : World) : Calls Tryz.prog 36 #[] w fun e w' => ∃ m, e = .returned (.agg #[.map (some m)]) ∧ w'.heap[m]? = some (fmap signT) ∧ w.heap.size ≤ m ∧ Below w.heap.size w w' := by
  have HC := Lib.hid (signs_any (w.alloc (.cells #[.map none] 68)))
  go_enter Tryz.func36, Tryz.ntmps36
  go_wp2_with fail
  refine HC.out.mono ?_
  rintro e w2 ⟨m, rfl, hmp, hmb, hB2⟩
  have hg : w2.heap[w.heap.size]? = some (.cells #[.map none] 68 (0, 0)) := (hB2.block _ (by simp)).trans (heap_alloc_new w _)
  have c0 := cell_of_one hg
  have z0 := free_of_one hg
  have HM := Lib.hid (And.intro hmp hmb)
  have HB := Lib.hid (((Below.refl _ w).alloc (Nat.le_refl _) (.cells #[.map none] 68)).trans (hB2.mono (by simp)))
  clear hmp hmb hB2 hg
  go_wp2_with fail
  have hc := World.cell?_setCell_same w2 ⟨w.heap.size, 0, none⟩ (.map (some m)) c0
  refine bodyPost_ret (v := .agg #[.map (some m)]) (by simp [results, Tryz.results36, go_sem, hc]) rfl ⟨m, rfl, ?_, ?_, HB.out.setCell (Nat.le_refl _) _⟩
  · rw [Below.heap_setCell _ _ _ _ (by have := HM.out.2; simp at this; show m ≠ w.heap.size; omega)]
    exact HM.out.1
  · have := HM.out.2; simp at this; omega

set_option maxRecDepth 100000 in
set_option maxHeartbeats 3200000 in
theorem stmtLines1_all (ls : Sts) (p : Option Addr) (c bx n : Nat) (w0 wx : World) (hmay : ls.may = true) (hd : ls.deep ≤ 900) (hlen : ∀ y ∈ ls.lines 0, y.2.length ≤ 1000000) (hin : ls.In w0 w0.heap.size p) (hG0 : Glob w0)
    (hx : wx.heap[bx]? = some (.cells #[.slice p ls.len c] 47 (0, 0))) :
    SeqOwn (fun A => Below w0.heap.size w0 A) Fence.wide n Tryz.prog 107 #[.pointer (some ⟨bx, 0, none⟩)] encL (ls.lines 0) wx := by
  intro l J Jx W hW hJ hJx hG hY h0
  refine callsIn_wide.2 ?_
  have hbz := Nat.lt_of_lt_of_le (lt_of_block hx) hW.size
  have HX := Lib.hid ((hW.block _ (lt_of_block hx)).trans hx)
  have HT := Lib.hid (newTeller_new (W.alloc (.cells #[.func (.yield l) #[] #[]] 117)))
  have HJ := Lib.hid hJ
  have HY := Lib.hid (fun k x W1 hx hj => jj_of (hY k x W1 hx hj))
  have HG := Lib.hid hG
  have HJ0 := Lib.hid h0
  clear hJ hJx hG hY h0 hx hW
  show Calls Tryz.prog 107 #[.func (.yield l) #[] #[], .pointer (some ⟨bx, 0, none⟩)] W _
  go_enter Tryz.func107, Tryz.ntmps107
  go_wp2_with fail
  refine HT.out.mono ?_
  rintro e w2 ⟨m, rfl, hmp, hmW, hB2⟩
  have hzW : (W.alloc (.cells #[.func (.yield l) #[] #[]] 117)).heap.size = W.heap.size + 1 := by simp
  have HB2 := Lib.hid (((Below.refl _ W).alloc (Nat.le_refl _) _).trans (hB2.mono (by simp)))
  have hky : w2.heap[W.heap.size]? = some (.cells #[.func (.yield l) #[] #[]] 117 (0, 0)) := (hB2.block _ (by simp)).trans (heap_alloc_new W _)
  have cx := cell_of_one ((HB2.out.block bx hbz).trans HX.out)
  have hbz2 : bx < w2.heap.size := Nat.lt_of_lt_of_le hbz HB2.out.size
  have HK := Lib.hid (And.intro hky (And.intro hmp hmW))
  clear hB2 hky hmp hmW
  have cv : ((w2.alloc (.cells #[.map (some m)] 68)).alloc (.cells #[.nilFunc] 55)).cell? ⟨w2.heap.size + 1, 0, none⟩ = some .nilFunc := World.cell?_alloc2_new _ _ _ _
  have fv : ((w2.alloc (.cells #[.map (some m)] 68)).alloc (.cells #[.nilFunc] 55)).frozen? ⟨w2.heap.size + 1, 0, none⟩ = false := World.frozen?_alloc2_new _ _ _ _
  go_wp2_with fail
  obtain ⟨w3, hw3⟩ : ∃ w3, (w2.alloc (.cells #[.map (some m)] 68)).alloc (.cells #[.func (.func 108) #[] #[.pointer (some ⟨W.heap.size, 0, none⟩), .pointer (some ⟨w2.heap.size, 0, none⟩), .pointer (some ⟨w2.heap.size + 1, 0, none⟩)]] 55) = w3 := ⟨_, rfl⟩
  have kt : w3.heap[w2.heap.size]? = some (.cells #[.map (some m)] 68 (0, 0)) := by rw [← hw3, Below.heap_alloc _ _ _ (by simp)]; exact heap_alloc_new w2 _
  have ks : w3.heap[w2.heap.size + 1]? = some (.cells #[.func (.func 108) #[] #[.pointer (some ⟨W.heap.size, 0, none⟩), .pointer (some ⟨w2.heap.size, 0, none⟩), .pointer (some ⟨w2.heap.size + 1, 0, none⟩)]] 55 (0, 0)) := by
    rw [← hw3]; have := heap_alloc_new (w2.alloc (.cells #[.map (some m)] 68)) (.cells #[.func (.func 108) #[] #[.pointer (some ⟨W.heap.size, 0, none⟩), .pointer (some ⟨w2.heap.size, 0, none⟩), .pointer (some ⟨w2.heap.size + 1, 0, none⟩)]] 55); simpa using this
  have hB3 : Below w2.heap.size w2 w3 := by rw [← hw3]; exact ((Below.refl _ w2).alloc (Nat.le_refl _) _).alloc (by simp) _
  have hz3 : w3.heap.size = w2.heap.size + 2 := by rw [← hw3]; simp
  have hmz : m < w2.heap.size := lt_of_block HK.out.2.1
  have hmW : W.heap.size ≤ m := by have := HK.out.2.2; omega
  have hzz : W.heap.size < w2.heap.size := lt_of_block HK.out.1
  have ky := (hB3.block _ hzz).trans HK.out.1
  have km := (hB3.block _ hmz).trans HK.out.2.1
  rw [hw3]
  clear hw3
  have E : ShEnv l (n - 1) (w2.heap.size + 2) W.heap.size w2.heap.size (w2.heap.size + 1) m w0 (ls.lines 0) (fun k A => J k A ∧ ShC l W.heap.size w2.heap.size (w2.heap.size + 1) m A ∧ w2.heap.size + 2 ≤ A.heap.size) Jx :=
    { gl := hG0
      mv := fun k A B h hAB => ⟨HJ.out k A B h.1 (hAB.mono (by omega)), ⟨(hAB.bel.block _ (by omega)).trans h.2.1.ky, (hAB.bel.block _ (by omega)).trans h.2.1.kt, (hAB.bel.block _ (by omega)).trans h.2.1.ks, (hAB.bel.block _ (by omega)).trans h.2.1.km⟩, Nat.le_trans h.2.2 hAB.bel.size⟩
      bel := fun k A h => HG.out k A h.1
      hn := fun k A h => h.2.2
      cl := fun k A h => h.2.1
      yl := fun k x W1 hx hj => by
        obtain ⟨fn, tmps, assign, body, hy, hR⟩ := HY.out k x W1 hx hj.1
        refine ⟨fn, tmps, assign, body, hy, hR.mono ?_⟩
        rintro e w ⟨v, rfl, hjj, hU⟩
        refine ⟨v, rfl, ?_⟩
        rcases hjj with ⟨rfl, h⟩ | ⟨rfl, h⟩
        · exact .inl ⟨rfl, h, ⟨hU.same _ _ hj.2.1.ky (by omega) (buf_fn _ _), hU.same _ _ hj.2.1.kt (by omega) (buf_teller _ _), hU.same _ _ hj.2.1.ks (by omega) (buf_show _ _), hU.same _ _ hj.2.1.km hmW (fun h => h)⟩, Nat.le_trans hj.2.2 hU.size⟩
        · exact .inr ⟨rfl, h⟩ }
  have HC := shn_all E (ls.size + 1) ls (Nat.lt_succ_self _) 0 0 p c w3 hmay (by omega) hlen hin (Seg.all _) ⟨HJ.out 0 W w3 HJ0.out (Rn.of_below (HB2.out.trans (hB3.mono HB2.out.size)) (Nat.le_refl _)), ⟨ky, kt, ks, km⟩, by omega⟩
  rw [Nat.zero_add, show ((0 : Nat) : Int) = 0 from rfl] at HC
  refine HC.mono ?_
  rintro e w4 ⟨v, rfl, hs⟩
  have HS := Lib.hid hs
  clear E HC hs kt ks ky km hB3 hz3
  go_wp2_with fail
  go_end0
  refine ⟨⟨_, rfl⟩, ?_⟩
  rcases HS.out with ⟨_, h⟩ | ⟨_, h⟩
  · exact .inl h.1
  · exact .inr h
end Go.Proofs.YtlhbledakddbbaaGreatDoor
/- A region's line; a variable's line. -/
namespace Go.Proofs.YtlhbledakddbbaaGreatDoor
open Go.RowKit

theorem secret_any (s : Bool) (w : World) : Calls Tryz.prog 125 #[.bool s] w fun e w' => e = .returned (.string (str (secT s))) ∧ w = w' := by
  cases s
  · go_enter Tryz.func125, Tryz.ntmps125
    go_wp2_with fail
    go_ret
    exact ⟨rfl, rfl⟩
  · go_enter Tryz.func125, Tryz.ntmps125
    go_wp2_with fail
    go_ret
    exact ⟨rfl, rfl⟩
theorem itoa_any (n : Int) (h0 : 0 ≤ n) (h1 : n ≤ 9223372036854775807) (w : World) (hG : Glob w) : Calls Tryz.prog 56 #[.int .i64 n] w fun e w' => e = .returned (.string (str (Lib.decDigits n.toNat))) ∧ Below w.heap.size w w' := by
  refine (Tryz.strconv_Itoa n (by omega) h1 w hG.here).mono ?_
  rintro e w' ⟨rfl, k, os, rfl⟩
  refine ⟨?_, Lib.below_grow w.heap.size w (Nat.le_refl _) k os⟩
  have : Lib.itoa n = Lib.decDigits n.toNat := by unfold Lib.itoa; rw [if_neg (by omega)]
  rw [this]; rfl

set_option maxRecDepth 100000 in
set_option maxHeartbeats 6400000 in
theorem regionLine_any (x : Rgn) (hm : x.may = true) (hf : x.fit) (w : World) (hG : Glob w) (hl : x.line.length ≤ 1000000) :
    Calls Tryz.prog 85 #[.agg #[.string (str x.name), .int .i64 x.addr, .int .i64 x.size, .bool x.secret]] w fun z w' => z = .returned (.string (str x.line)) ∧ Below w.heap.size w w' := by
  obtain ⟨nm, ad, sz, sc⟩ := x
  unfold Rgn.may at hm
  simp only [Bool.and_eq_true, decide_eq_true_eq] at hm
  obtain ⟨_, had, hsz⟩ := hm
  obtain ⟨⟨_, hau⟩, _, hsu⟩ := hf
  have ht : (Rgn.mk nm ad sz sc).line = (((((([114, 101, 103, 105, 111, 110, 32] ++ nm) ++ [32]) ++ Lib.decDigits ad.toNat) ++ [32]) ++ Lib.decDigits sz.toNat) ++ secT sc) ++ [59] := rfl
  have hlen : nm.length + (Lib.decDigits ad.toNat).length + (Lib.decDigits sz.toNat).length + (secT sc).length ≤ 1000000 := by rw [ht] at hl; simp only [List.length_append, List.length_cons, List.length_nil] at hl; omega
  obtain ⟨W1, hW1⟩ : ∃ W1, w.alloc (.cells #[.string (str nm), .int .i64 ad, .int .i64 sz, .bool sc] 77) = W1 := ⟨_, rfl⟩
  have hB1 : Below w.heap.size w W1 := by rw [← hW1]; exact (Below.refl _ _).alloc (Nat.le_refl _) _
  have hz1 : W1.heap.size = w.heap.size + 1 := by rw [← hW1]; simp
  have hk : W1.heap[w.heap.size]? = some (.cells #[.string (str nm), .int .i64 ad, .int .i64 sz, .bool sc] 77 (0, 0)) := by rw [← hW1]; exact heap_alloc_new w _
  have ht1 : w.heap.size < W1.heap.size := by omega
  have hG1 := hG.later hB1
  have HB1 := Lib.hid hB1
  have HAd := Lib.hid (fun (w1 : World) (hB : Below W1.heap.size W1 w1) => itoa_any ad had hau w1 (hG1.later hB))
  have HSz := Lib.hid (fun (w1 : World) (hB : Below W1.heap.size W1 w1) => itoa_any sz hsz hsu w1 (hG1.later hB))
  obtain ⟨NM, hNM⟩ : ∃ A, A = str (nm) := ⟨_, rfl⟩
  obtain ⟨A0, hA0⟩ : ∃ A, A = str (Lib.decDigits ad.toNat) := ⟨_, rfl⟩
  obtain ⟨A1, hA1⟩ : ∃ A, A = str (Lib.decDigits sz.toNat) := ⟨_, rfl⟩
  obtain ⟨A2, hA2⟩ : ∃ A, A = str (secT sc) := ⟨_, rfl⟩
  have HSc : ∀ w : World, Calls Tryz.prog 125 #[.bool sc] w fun e w' => e = .returned (.string A2) ∧ w = w' := fun w => by rw [hA2]; exact secret_any sc w
  have HSec := Lib.hid HSc
  rw [← hNM] at hk
  rw [← hA0] at HAd
  rw [← hA1] at HSz
  have x0 : W1.cell? ⟨w.heap.size, 0, none⟩ = some (.string NM) := cell_block hk rfl
  have x1 : W1.cell? ⟨w.heap.size, 1, none⟩ = some (.int .i64 ad) := cell_block hk rfl
  have x2 : W1.cell? ⟨w.heap.size, 2, none⟩ = some (.int .i64 sz) := cell_block hk rfl
  have x3 : W1.cell? ⟨w.heap.size, 3, none⟩ = some (.bool sc) := cell_block hk rfl
  obtain ⟨B2, hB2⟩ : ∃ B, B = str ([114, 101, 103, 105, 111, 110, 32] ++ nm) := ⟨_, rfl⟩
  obtain ⟨B3, hB3⟩ : ∃ B, B = str (([114, 101, 103, 105, 111, 110, 32] ++ nm) ++ [32]) := ⟨_, rfl⟩
  obtain ⟨B7, hB7⟩ : ∃ B, B = str ((([114, 101, 103, 105, 111, 110, 32] ++ nm) ++ [32]) ++ Lib.decDigits ad.toNat) := ⟨_, rfl⟩
  obtain ⟨B8, hB8⟩ : ∃ B, B = str (((([114, 101, 103, 105, 111, 110, 32] ++ nm) ++ [32]) ++ Lib.decDigits ad.toNat) ++ [32]) := ⟨_, rfl⟩
  obtain ⟨B12, hB12⟩ : ∃ B, B = str ((((([114, 101, 103, 105, 111, 110, 32] ++ nm) ++ [32]) ++ Lib.decDigits ad.toNat) ++ [32]) ++ Lib.decDigits sz.toNat) := ⟨_, rfl⟩
  obtain ⟨B16, hB16⟩ : ∃ B, B = str (((((([114, 101, 103, 105, 111, 110, 32] ++ nm) ++ [32]) ++ Lib.decDigits ad.toNat) ++ [32]) ++ Lib.decDigits sz.toNat) ++ secT sc) := ⟨_, rfl⟩
  obtain ⟨B17, hB17⟩ : ∃ B, B = str ((((((([114, 101, 103, 105, 111, 110, 32] ++ nm) ++ [32]) ++ Lib.decDigits ad.toNat) ++ [32]) ++ Lib.decDigits sz.toNat) ++ secT sc) ++ [59]) := ⟨_, rfl⟩
  have qB2 : ∀ w : World, (Op.stringOp .add ⟨#[114, 101, 103, 105, 111, 110, 32]⟩ NM).run Tryz.prog w = .ok (.string B2) w := fun w => by
    (try rw [hB2]); (try rw [hNM]); exact add_str ([114, 101, 103, 105, 111, 110, 32]) (nm) (by simp only [List.length_cons, List.length_nil] at hlen ⊢; omega) w
  have qB3 : ∀ w : World, (Op.stringOp .add B2 ⟨#[32]⟩).run Tryz.prog w = .ok (.string B3) w := fun w => by
    (try rw [hB3]); (try rw [hB2]); exact add_str (([114, 101, 103, 105, 111, 110, 32] ++ nm)) ([32]) (by simp only [List.length_append, List.length_cons, List.length_nil] at hlen ⊢; omega) w
  have qB7 : ∀ w : World, (Op.stringOp .add B3 A0).run Tryz.prog w = .ok (.string B7) w := fun w => by
    (try rw [hB7]); (try rw [hB3]); (try rw [hA0]); exact add_str ((([114, 101, 103, 105, 111, 110, 32] ++ nm) ++ [32])) (Lib.decDigits ad.toNat) (by simp only [List.length_append, List.length_cons, List.length_nil] at hlen ⊢; omega) w
  have qB8 : ∀ w : World, (Op.stringOp .add B7 ⟨#[32]⟩).run Tryz.prog w = .ok (.string B8) w := fun w => by
    (try rw [hB8]); (try rw [hB7]); exact add_str (((([114, 101, 103, 105, 111, 110, 32] ++ nm) ++ [32]) ++ Lib.decDigits ad.toNat)) ([32]) (by simp only [List.length_append, List.length_cons, List.length_nil] at hlen ⊢; omega) w
  have qB12 : ∀ w : World, (Op.stringOp .add B8 A1).run Tryz.prog w = .ok (.string B12) w := fun w => by
    (try rw [hB12]); (try rw [hB8]); (try rw [hA1]); exact add_str ((((([114, 101, 103, 105, 111, 110, 32] ++ nm) ++ [32]) ++ Lib.decDigits ad.toNat) ++ [32])) (Lib.decDigits sz.toNat) (by simp only [List.length_append, List.length_cons, List.length_nil] at hlen ⊢; omega) w
  have qB16 : ∀ w : World, (Op.stringOp .add B12 A2).run Tryz.prog w = .ok (.string B16) w := fun w => by
    (try rw [hB16]); (try rw [hB12]); (try rw [hA2]); exact add_str (((((([114, 101, 103, 105, 111, 110, 32] ++ nm) ++ [32]) ++ Lib.decDigits ad.toNat) ++ [32]) ++ Lib.decDigits sz.toNat)) (secT sc) (by simp only [List.length_append, List.length_cons, List.length_nil] at hlen ⊢; omega) w
  have qB17 : ∀ w : World, (Op.stringOp .add B16 ⟨#[59]⟩).run Tryz.prog w = .ok (.string B17) w := fun w => by
    (try rw [hB17]); (try rw [hB16]); exact add_str ((((((([114, 101, 103, 105, 111, 110, 32] ++ nm) ++ [32]) ++ Lib.decDigits ad.toNat) ++ [32]) ++ Lib.decDigits sz.toNat) ++ secT sc)) ([59]) (by simp only [List.length_append, List.length_cons, List.length_nil] at hlen ⊢; omega) w
  have HF := Lib.hid (show str (Rgn.mk nm ad sz sc).line = B17 by rw [ht, hB17])
  show Calls _ _ #[.agg #[.string (str nm), .int .i64 ad, .int .i64 sz, .bool sc]] w _
  rw [← hNM]
  clear hA0 hA1 hA2 HSc hB2 hB3 hB7 hB8 hB12 hB16 hB17 hl ht hk hG hG1 hB1 had hau hsz hsu
  rw [← hNM] at hW1
  clear hNM
  go_enter Tryz.func85, Tryz.ntmps85
  go_wp2_with fail
  try rw [hW1]
  clear hW1
  have HS : Below W1.heap.size W1 W1.drew := (Below.refl _ _).drew
  refine wp_region_held_drew (S := fun W => Below W1.heap.size W1 W ∧ W.cell? ⟨w.heap.size, 0, none⟩ = some (.string NM) ∧ W.cell? ⟨w.heap.size, 1, none⟩ = some (.int .i64 ad) ∧ W.cell? ⟨w.heap.size, 2, none⟩ = some (.int .i64 sz) ∧ W.cell? ⟨w.heap.size, 3, none⟩ = some (.bool sc)) (by kernel_rfl) ?_ (fun hHeld => ?_)
  · exact ⟨HS, (HS.cell ht1).trans x0, (HS.cell ht1).trans x1, (HS.cell ht1).trans x2, (HS.cell ht1).trans x3⟩
  refine wpAnyH_take (i := 0) (oi := ⟨some 3, .fieldAddr 77 (.tmp 1) 0, 0, "lines.go:102", #[], none⟩) (v := ?_) rfl (by kernel_rfl) (by kernel_rfl) (by kernel_rfl) (fun _ _ _ h => h) (Or.inl ⟨by rfl, ?_⟩) (by assumption) ?_
  rotate_left
  · (intro w hSw; (try dsimp only at hSw); go_simp; try with_reducible rfl)
  try simp only [Act.put, List.setIfInBounds_toArray, List.set_cons_zero, List.set_cons_succ]
  refine wpAnyH_take (i := 1) (oi := ⟨some 4, .load 9 (.tmp 3), 9, "lines.go:102", #[⟨0, .data⟩], none⟩) (v := ?_) rfl (by kernel_rfl) (by kernel_rfl) (by kernel_rfl) (fun _ _ _ h => h) (Or.inl ⟨by rfl, ?_⟩) (by assumption) ?_
  rotate_left
  · (intro w hSw; (try dsimp only at hSw); go_simp; try with_reducible rfl)
  try simp only [Act.put, List.setIfInBounds_toArray, List.set_cons_zero, List.set_cons_succ]
  refine wpAnyH_take (i := 2) (oi := ⟨some 5, .binOp .add 9 (.const (.string ⟨#[114, 101, 103, 105, 111, 110, 32]⟩)) (.tmp 4) 9, 9, "lines.go:102", #[⟨1, .data⟩], none⟩) (v := .string B2) rfl (by kernel_rfl) (by kernel_rfl) (by kernel_rfl) (fun _ _ _ h => h) (Or.inl ⟨by rfl, ?_⟩) (by assumption) ?_
  · (intro w hSw; (try dsimp only at hSw); go_simp)
  try simp only [Act.put, List.setIfInBounds_toArray, List.set_cons_zero, List.set_cons_succ]
  refine wpAnyH_take (i := 3) (oi := ⟨some 6, .binOp .add 9 (.tmp 5) (.const (.string ⟨#[32]⟩)) 9, 9, "lines.go:102", #[⟨2, .data⟩], none⟩) (v := .string B3) rfl (by kernel_rfl) (by kernel_rfl) (by kernel_rfl) (fun _ _ _ h => h) (Or.inl ⟨by rfl, ?_⟩) (by assumption) ?_
  · (intro w hSw; (try dsimp only at hSw); go_simp)
  try simp only [Act.put, List.setIfInBounds_toArray, List.set_cons_zero, List.set_cons_succ]
  refine wpAnyH_take (i := 4) (oi := ⟨some 7, .fieldAddr 77 (.tmp 1) 1, 0, "lines.go:102", #[], none⟩) (v := ?_) rfl (by kernel_rfl) (by kernel_rfl) (by kernel_rfl) (fun _ _ _ h => h) (Or.inl ⟨by rfl, ?_⟩) (by assumption) ?_
  rotate_left
  · (intro w hSw; (try dsimp only at hSw); go_simp; try with_reducible rfl)
  try simp only [Act.put, List.setIfInBounds_toArray, List.set_cons_zero, List.set_cons_succ]
  refine wpAnyH_take (i := 5) (oi := ⟨some 8, .load 3 (.tmp 7), 3, "lines.go:102", #[⟨4, .data⟩], none⟩) (v := ?_) rfl (by kernel_rfl) (by kernel_rfl) (by kernel_rfl) (fun _ _ _ h => h) (Or.inl ⟨by rfl, ?_⟩) (by assumption) ?_
  rotate_left
  · (intro w hSw; (try dsimp only at hSw); go_simp; try with_reducible rfl)
  try simp only [Act.put, List.setIfInBounds_toArray, List.set_cons_zero, List.set_cons_succ]
  refine wpAnyH_take (i := 9) (oi := ⟨some 12, .fieldAddr 77 (.tmp 1) 2, 0, "lines.go:102", #[], none⟩) (v := ?_) rfl (by kernel_rfl) (by kernel_rfl) (by kernel_rfl) (fun _ _ _ h => h) (Or.inl ⟨by rfl, ?_⟩) (by assumption) ?_
  rotate_left
  · (intro w hSw; (try dsimp only at hSw); go_simp; try with_reducible rfl)
  try simp only [Act.put, List.setIfInBounds_toArray, List.set_cons_zero, List.set_cons_succ]
  refine wpAnyH_take (i := 10) (oi := ⟨some 13, .load 3 (.tmp 12), 3, "lines.go:102", #[⟨9, .data⟩], none⟩) (v := ?_) rfl (by kernel_rfl) (by kernel_rfl) (by kernel_rfl) (fun _ _ _ h => h) (Or.inl ⟨by rfl, ?_⟩) (by assumption) ?_
  rotate_left
  · (intro w hSw; (try dsimp only at hSw); go_simp; try with_reducible rfl)
  try simp only [Act.put, List.setIfInBounds_toArray, List.set_cons_zero, List.set_cons_succ]
  refine wpAnyH_take (i := 13) (oi := ⟨some 16, .fieldAddr 77 (.tmp 1) 3, 0, "lines.go:102", #[], none⟩) (v := ?_) rfl (by kernel_rfl) (by kernel_rfl) (by kernel_rfl) (fun _ _ _ h => h) (Or.inl ⟨by rfl, ?_⟩) (by assumption) ?_
  rotate_left
  · (intro w hSw; (try dsimp only at hSw); go_simp; try with_reducible rfl)
  try simp only [Act.put, List.setIfInBounds_toArray, List.set_cons_zero, List.set_cons_succ]
  refine wpAnyH_take (i := 14) (oi := ⟨some 17, .load 4 (.tmp 16), 4, "lines.go:102", #[⟨13, .data⟩], none⟩) (v := ?_) rfl (by kernel_rfl) (by kernel_rfl) (by kernel_rfl) (fun _ _ _ h => h) (Or.inl ⟨by rfl, ?_⟩) (by assumption) ?_
  rotate_left
  · (intro w hSw; (try dsimp only at hSw); go_simp; try with_reducible rfl)
  try simp only [Act.put, List.setIfInBounds_toArray, List.set_cons_zero, List.set_cons_succ]
  refine wpAnyH_ready (rs := [6]) (by kernel_rfl) (by simp) ?_
  refine AllReadyH.cons (o := ⟨some 9, .call { callee := .value (.func 56), args := #[.tmp 8], argTypes := #[3] }, 9, "lines.go:102", #[⟨5, .data⟩], none⟩) rfl (fun K hK => ?_) AllReadyH.nil
  go_simp
  refine (HAd.out _ HS).mono ?_
  rintro z wa ⟨rfl, hB'⟩
  replace HS := HS.trans (hB'.mono HS.size)
  clear hB'
  refine hK.out _ _ ?_ (fun hHeld => ?_)
  · exact ⟨HS, (HS.cell ht1).trans x0, (HS.cell ht1).trans x1, (HS.cell ht1).trans x2, (HS.cell ht1).trans x3⟩
  clear hK K
  try simp only [Act.put, List.setIfInBounds_toArray, List.set_cons_zero, List.set_cons_succ]
  refine wpAnyH_take (i := 7) (oi := ⟨some 10, .binOp .add 9 (.tmp 6) (.tmp 9) 9, 9, "lines.go:102", #[⟨3, .data⟩, ⟨6, .data⟩], none⟩) (v := .string B7) rfl (by kernel_rfl) (by kernel_rfl) (by kernel_rfl) (fun _ _ _ h => h) (Or.inl ⟨by rfl, ?_⟩) (by assumption) ?_
  · (intro w hSw; (try dsimp only at hSw); go_simp)
  try simp only [Act.put, List.setIfInBounds_toArray, List.set_cons_zero, List.set_cons_succ]
  refine wpAnyH_take (i := 8) (oi := ⟨some 11, .binOp .add 9 (.tmp 10) (.const (.string ⟨#[32]⟩)) 9, 9, "lines.go:102", #[⟨7, .data⟩], none⟩) (v := .string B8) rfl (by kernel_rfl) (by kernel_rfl) (by kernel_rfl) (fun _ _ _ h => h) (Or.inl ⟨by rfl, ?_⟩) (by assumption) ?_
  · (intro w hSw; (try dsimp only at hSw); go_simp)
  try simp only [Act.put, List.setIfInBounds_toArray, List.set_cons_zero, List.set_cons_succ]
  refine wpAnyH_ready (rs := [11]) (by kernel_rfl) (by simp) ?_
  refine AllReadyH.cons (o := ⟨some 14, .call { callee := .value (.func 56), args := #[.tmp 13], argTypes := #[3] }, 9, "lines.go:102", #[⟨10, .data⟩, ⟨6, .chain⟩], none⟩) rfl (fun K hK => ?_) AllReadyH.nil
  go_simp
  refine (HSz.out _ HS).mono ?_
  rintro z wa ⟨rfl, hB'⟩
  replace HS := HS.trans (hB'.mono HS.size)
  clear hB'
  refine hK.out _ _ ?_ (fun hHeld => ?_)
  · exact ⟨HS, (HS.cell ht1).trans x0, (HS.cell ht1).trans x1, (HS.cell ht1).trans x2, (HS.cell ht1).trans x3⟩
  clear hK K
  try simp only [Act.put, List.setIfInBounds_toArray, List.set_cons_zero, List.set_cons_succ]
  refine wpAnyH_take (i := 12) (oi := ⟨some 15, .binOp .add 9 (.tmp 11) (.tmp 14) 9, 9, "lines.go:102", #[⟨8, .data⟩, ⟨11, .data⟩], none⟩) (v := .string B12) rfl (by kernel_rfl) (by kernel_rfl) (by kernel_rfl) (fun _ _ _ h => h) (Or.inl ⟨by rfl, ?_⟩) (by assumption) ?_
  · (intro w hSw; (try dsimp only at hSw); go_simp)
  try simp only [Act.put, List.setIfInBounds_toArray, List.set_cons_zero, List.set_cons_succ]
  refine wpAnyH_ready (rs := [15]) (by kernel_rfl) (by simp) ?_
  refine AllReadyH.cons (o := ⟨some 18, .call { callee := .value (.func 125), args := #[.tmp 17], argTypes := #[4] }, 9, "lines.go:102", #[⟨14, .data⟩, ⟨11, .chain⟩], none⟩) rfl (fun K hK => ?_) AllReadyH.nil
  go_simp
  refine (HSec.out _).mono ?_
  rintro z wa ⟨rfl, rfl⟩
  refine hK.out _ _ ?_ (fun hHeld => ?_)
  · exact ⟨HS, (HS.cell ht1).trans x0, (HS.cell ht1).trans x1, (HS.cell ht1).trans x2, (HS.cell ht1).trans x3⟩
  clear hK K
  try simp only [Act.put, List.setIfInBounds_toArray, List.set_cons_zero, List.set_cons_succ]
  refine wpAnyH_take (i := 16) (oi := ⟨some 19, .binOp .add 9 (.tmp 15) (.tmp 18) 9, 9, "lines.go:102", #[⟨12, .data⟩, ⟨15, .data⟩], none⟩) (v := .string B16) rfl (by kernel_rfl) (by kernel_rfl) (by kernel_rfl) (fun _ _ _ h => h) (Or.inl ⟨by rfl, ?_⟩) (by assumption) ?_
  · (intro w hSw; (try dsimp only at hSw); go_simp)
  try simp only [Act.put, List.setIfInBounds_toArray, List.set_cons_zero, List.set_cons_succ]
  refine wpAnyH_take (i := 17) (oi := ⟨some 20, .binOp .add 9 (.tmp 19) (.const (.string ⟨#[59]⟩)) 9, 9, "lines.go:102", #[⟨16, .data⟩], none⟩) (v := .string B17) rfl (by kernel_rfl) (by kernel_rfl) (by kernel_rfl) (fun _ _ _ h => h) (Or.inl ⟨by rfl, ?_⟩) (by assumption) ?_
  · (intro w hSw; (try dsimp only at hSw); go_simp)
  try simp only [Act.put, List.setIfInBounds_toArray, List.set_cons_zero, List.set_cons_succ]
  refine wpAnyH_take (i := 18) (oi := ⟨some 2, .assign (.tmp 20), 9, "lines.go:102", #[⟨17, .data⟩, ⟨15, .chain⟩, ⟨0, .phase⟩, ⟨1, .phase⟩, ⟨2, .phase⟩, ⟨3, .phase⟩, ⟨4, .phase⟩, ⟨5, .phase⟩, ⟨6, .phase⟩, ⟨7, .phase⟩, ⟨8, .phase⟩, ⟨9, .phase⟩, ⟨10, .phase⟩, ⟨11, .phase⟩, ⟨12, .phase⟩, ⟨13, .phase⟩, ⟨14, .phase⟩, ⟨15, .phase⟩, ⟨16, .phase⟩, ⟨17, .phase⟩], none⟩) (v := ?_) rfl (by kernel_rfl) (by kernel_rfl) (by kernel_rfl) (fun _ _ _ h => h) (Or.inl ⟨by rfl, ?_⟩) (by assumption) ?_
  rotate_left
  · (intro w hSw; (try dsimp only at hSw); go_simp; try with_reducible rfl)
  try simp only [Act.put, List.setIfInBounds_toArray, List.set_cons_zero, List.set_cons_succ]
  refine wpAnyH_done (by kernel_rfl) ?_ _
  have HE := Lib.hid (HB1.out.trans (HS.mono HB1.out.size))
  go_wp2_with fail
  go_ret
  exact ⟨ret_strE HF.out.symm, HE.out⟩
set_option maxRecDepth 100000 in
set_option maxHeartbeats 6400000 in
theorem varLine_1 (nm : List UInt8) (sz : Int) (sc : Bool) (w : World) (hl : nm.length ≤ 1000000) :
    Calls Tryz.prog 127 #[.agg #[.string (str nm), .int .i64 1, .int .i64 sz, .bool sc]] w fun z w' => z = .returned (.string (str (([118, 97, 114, 32] ++ nm) ++ [59]))) ∧ Below w.heap.size w w' := by
  have hlen := hl
  obtain ⟨NM, hNM⟩ : ∃ A, A = str (nm) := ⟨_, rfl⟩
  obtain ⟨B3, hB3⟩ : ∃ B, B = str ([118, 97, 114, 32] ++ nm) := ⟨_, rfl⟩
  obtain ⟨B4, hB4⟩ : ∃ B, B = str (([118, 97, 114, 32] ++ nm) ++ [59]) := ⟨_, rfl⟩
  have qB3 : ∀ w : World, (Op.stringOp .add ⟨#[118, 97, 114, 32]⟩ NM).run Tryz.prog w = .ok (.string B3) w := fun w => by
    (try rw [hB3]); (try rw [hNM]); exact add_str ([118, 97, 114, 32]) (nm) (by simp only [List.length_cons, List.length_nil] at hlen ⊢; omega) w
  have qB4 : ∀ w : World, (Op.stringOp .add B3 ⟨#[59]⟩).run Tryz.prog w = .ok (.string B4) w := fun w => by
    (try rw [hB4]); (try rw [hB3]); exact add_str (([118, 97, 114, 32] ++ nm)) ([59]) (by simp only [List.length_append, List.length_cons, List.length_nil] at hlen ⊢; omega) w
  obtain ⟨W1, hW1⟩ : ∃ W1, w.alloc (.cells #[.string NM, .int .i64 1, .int .i64 sz, .bool sc] 80) = W1 := ⟨_, rfl⟩
  have hk : W1.heap[w.heap.size]? = some (.cells #[.string NM, .int .i64 1, .int .i64 sz, .bool sc] 80 (0, 0)) := by rw [← hW1]; exact heap_alloc_new w _
  have HB1 := Lib.hid (show Below w.heap.size w W1 by rw [← hW1]; exact (Below.refl _ _).alloc (Nat.le_refl _) _)
  have x0 : W1.cell? ⟨w.heap.size, 0, none⟩ = some (.string NM) := cell_block hk rfl
  have x1 : W1.cell? ⟨w.heap.size, 1, none⟩ = some (.int .i64 1) := cell_block hk rfl
  have HF := Lib.hid (show str (([118, 97, 114, 32] ++ nm) ++ [59]) = B4 by rw [hB4])
  rw [← hNM]
  clear hNM hB3 hB4 hk
  go_enter Tryz.func127, Tryz.ntmps127
  go_wp2_with fail
  go_ret
  exact ⟨ret_strE HF.out.symm, HB1.out⟩
set_option maxRecDepth 100000 in
set_option maxHeartbeats 6400000 in
theorem varLine_2 (nm : List UInt8) (sz : Int) (sc : Bool) (hsz : 0 ≤ sz) (hsu : sz ≤ 9223372036854775807) (w : World) (hG : Glob w) (hlen : nm.length + (Lib.decDigits sz.toNat).length + (secT sc).length ≤ 1000000) :
    Calls Tryz.prog 127 #[.agg #[.string (str nm), .int .i64 2, .int .i64 sz, .bool sc]] w fun z w' => z = .returned (.string (str ((((([97, 114, 114, 97, 121, 32] ++ nm) ++ [32]) ++ Lib.decDigits sz.toNat) ++ secT sc) ++ [59]))) ∧ Below w.heap.size w w' := by
  obtain ⟨NM, hNM⟩ : ∃ A, A = str (nm) := ⟨_, rfl⟩
  obtain ⟨A1, hA1⟩ : ∃ A, A = str (Lib.decDigits sz.toNat) := ⟨_, rfl⟩
  obtain ⟨A2, hA2⟩ : ∃ A, A = str (secT sc) := ⟨_, rfl⟩
  obtain ⟨W1, hW1⟩ : ∃ W1, w.alloc (.cells #[.string NM, .int .i64 2, .int .i64 sz, .bool sc] 80) = W1 := ⟨_, rfl⟩
  have hB1 : Below w.heap.size w W1 := by rw [← hW1]; exact (Below.refl _ _).alloc (Nat.le_refl _) _
  have hz1 : W1.heap.size = w.heap.size + 1 := by rw [← hW1]; simp
  have hk : W1.heap[w.heap.size]? = some (.cells #[.string NM, .int .i64 2, .int .i64 sz, .bool sc] 80 (0, 0)) := by rw [← hW1]; exact heap_alloc_new w _
  have ht1 : w.heap.size < W1.heap.size := by omega
  have hG1 := hG.later hB1
  have HB1 := Lib.hid hB1
  have HSz := Lib.hid (fun (w1 : World) (hB : Below W1.heap.size W1 w1) => itoa_any sz hsz hsu w1 (hG1.later hB))
  have HSc : ∀ w : World, Calls Tryz.prog 125 #[.bool sc] w fun e w' => e = .returned (.string A2) ∧ w = w' := fun w => by rw [hA2]; exact secret_any sc w
  have HSec := Lib.hid HSc
  rw [← hA1] at HSz
  have x0 : W1.cell? ⟨w.heap.size, 0, none⟩ = some (.string NM) := cell_block hk rfl
  have x1 : W1.cell? ⟨w.heap.size, 1, none⟩ = some (.int .i64 2) := cell_block hk rfl
  have x2 : W1.cell? ⟨w.heap.size, 2, none⟩ = some (.int .i64 sz) := cell_block hk rfl
  have x3 : W1.cell? ⟨w.heap.size, 3, none⟩ = some (.bool sc) := cell_block hk rfl
  obtain ⟨B3, hB3⟩ : ∃ B, B = str ([97, 114, 114, 97, 121, 32] ++ nm) := ⟨_, rfl⟩
  obtain ⟨B4, hB4⟩ : ∃ B, B = str (([97, 114, 114, 97, 121, 32] ++ nm) ++ [32]) := ⟨_, rfl⟩
  obtain ⟨B8, hB8⟩ : ∃ B, B = str ((([97, 114, 114, 97, 121, 32] ++ nm) ++ [32]) ++ Lib.decDigits sz.toNat) := ⟨_, rfl⟩
  obtain ⟨B12, hB12⟩ : ∃ B, B = str (((([97, 114, 114, 97, 121, 32] ++ nm) ++ [32]) ++ Lib.decDigits sz.toNat) ++ secT sc) := ⟨_, rfl⟩
  obtain ⟨B13, hB13⟩ : ∃ B, B = str ((((([97, 114, 114, 97, 121, 32] ++ nm) ++ [32]) ++ Lib.decDigits sz.toNat) ++ secT sc) ++ [59]) := ⟨_, rfl⟩
  have qB3 : ∀ w : World, (Op.stringOp .add ⟨#[97, 114, 114, 97, 121, 32]⟩ NM).run Tryz.prog w = .ok (.string B3) w := fun w => by
    (try rw [hB3]); (try rw [hNM]); exact add_str ([97, 114, 114, 97, 121, 32]) (nm) (by simp only [List.length_cons, List.length_nil] at hlen ⊢; omega) w
  have qB4 : ∀ w : World, (Op.stringOp .add B3 ⟨#[32]⟩).run Tryz.prog w = .ok (.string B4) w := fun w => by
    (try rw [hB4]); (try rw [hB3]); exact add_str (([97, 114, 114, 97, 121, 32] ++ nm)) ([32]) (by simp only [List.length_append, List.length_cons, List.length_nil] at hlen ⊢; omega) w
  have qB8 : ∀ w : World, (Op.stringOp .add B4 A1).run Tryz.prog w = .ok (.string B8) w := fun w => by
    (try rw [hB8]); (try rw [hB4]); (try rw [hA1]); exact add_str ((([97, 114, 114, 97, 121, 32] ++ nm) ++ [32])) (Lib.decDigits sz.toNat) (by simp only [List.length_append, List.length_cons, List.length_nil] at hlen ⊢; omega) w
  have qB12 : ∀ w : World, (Op.stringOp .add B8 A2).run Tryz.prog w = .ok (.string B12) w := fun w => by
    (try rw [hB12]); (try rw [hB8]); (try rw [hA2]); exact add_str (((([97, 114, 114, 97, 121, 32] ++ nm) ++ [32]) ++ Lib.decDigits sz.toNat)) (secT sc) (by simp only [List.length_append, List.length_cons, List.length_nil] at hlen ⊢; omega) w
  have qB13 : ∀ w : World, (Op.stringOp .add B12 ⟨#[59]⟩).run Tryz.prog w = .ok (.string B13) w := fun w => by
    (try rw [hB13]); (try rw [hB12]); exact add_str ((((([97, 114, 114, 97, 121, 32] ++ nm) ++ [32]) ++ Lib.decDigits sz.toNat) ++ secT sc)) ([59]) (by simp only [List.length_append, List.length_cons, List.length_nil] at hlen ⊢; omega) w
  have HF := Lib.hid (show str ((((([97, 114, 114, 97, 121, 32] ++ nm) ++ [32]) ++ Lib.decDigits sz.toNat) ++ secT sc) ++ [59]) = B13 by rw [hB13])
  rw [← hNM]
  clear hNM hA1 hA2 HSc hB3 hB4 hB8 hB12 hB13 hk hG hG1 hB1 hsz hsu
  go_enter Tryz.func127, Tryz.ntmps127
  go_wp2_with fail
  try rw [hW1]
  clear hW1
  have HS : Below W1.heap.size W1 W1.drew := (Below.refl _ _).drew
  refine wp_region_held_drew (S := fun W => Below W1.heap.size W1 W ∧ W.cell? ⟨w.heap.size, 0, none⟩ = some (.string NM) ∧ W.cell? ⟨w.heap.size, 2, none⟩ = some (.int .i64 sz) ∧ W.cell? ⟨w.heap.size, 3, none⟩ = some (.bool sc)) (by kernel_rfl) ?_ (fun hHeld => ?_)
  · exact ⟨HS, (HS.cell ht1).trans x0, (HS.cell ht1).trans x2, (HS.cell ht1).trans x3⟩
  refine wpAnyH_take (i := 0) (oi := ⟨some 17, .move (.tmp 3), 9, "lines.go:127", #[], none⟩) (v := ?_) rfl (by kernel_rfl) (by kernel_rfl) (by kernel_rfl) (fun _ _ _ h => h) (Or.inl ⟨by rfl, ?_⟩) (by assumption) ?_
  rotate_left
  · (intro w hSw; (try dsimp only at hSw); go_simp; try with_reducible rfl)
  try simp only [Act.put, List.setIfInBounds_toArray, List.set_cons_zero, List.set_cons_succ]
  refine wpAnyH_take (i := 1) (oi := ⟨some 18, .fieldAddr 80 (.tmp 1) 0, 0, "lines.go:127", #[], none⟩) (v := ?_) rfl (by kernel_rfl) (by kernel_rfl) (by kernel_rfl) (fun _ _ _ h => h) (Or.inl ⟨by rfl, ?_⟩) (by assumption) ?_
  rotate_left
  · (intro w hSw; (try dsimp only at hSw); go_simp; try with_reducible rfl)
  try simp only [Act.put, List.setIfInBounds_toArray, List.set_cons_zero, List.set_cons_succ]
  refine wpAnyH_take (i := 2) (oi := ⟨some 19, .load 9 (.tmp 18), 9, "lines.go:127", #[⟨1, .data⟩], none⟩) (v := ?_) rfl (by kernel_rfl) (by kernel_rfl) (by kernel_rfl) (fun _ _ _ h => h) (Or.inl ⟨by rfl, ?_⟩) (by assumption) ?_
  rotate_left
  · (intro w hSw; (try dsimp only at hSw); go_simp; try with_reducible rfl)
  try simp only [Act.put, List.setIfInBounds_toArray, List.set_cons_zero, List.set_cons_succ]
  refine wpAnyH_take (i := 3) (oi := ⟨some 20, .binOp .add 9 (.tmp 17) (.tmp 19) 9, 9, "lines.go:127", #[⟨0, .data⟩, ⟨2, .data⟩], none⟩) (v := .string B3) rfl (by kernel_rfl) (by kernel_rfl) (by kernel_rfl) (fun _ _ _ h => h) (Or.inl ⟨by rfl, ?_⟩) (by assumption) ?_
  · (intro w hSw; (try dsimp only at hSw); go_simp)
  try simp only [Act.put, List.setIfInBounds_toArray, List.set_cons_zero, List.set_cons_succ]
  refine wpAnyH_take (i := 4) (oi := ⟨some 21, .binOp .add 9 (.tmp 20) (.const (.string ⟨#[32]⟩)) 9, 9, "lines.go:127", #[⟨3, .data⟩], none⟩) (v := .string B4) rfl (by kernel_rfl) (by kernel_rfl) (by kernel_rfl) (fun _ _ _ h => h) (Or.inl ⟨by rfl, ?_⟩) (by assumption) ?_
  · (intro w hSw; (try dsimp only at hSw); go_simp)
  try simp only [Act.put, List.setIfInBounds_toArray, List.set_cons_zero, List.set_cons_succ]
  refine wpAnyH_take (i := 5) (oi := ⟨some 22, .fieldAddr 80 (.tmp 1) 2, 0, "lines.go:127", #[], none⟩) (v := ?_) rfl (by kernel_rfl) (by kernel_rfl) (by kernel_rfl) (fun _ _ _ h => h) (Or.inl ⟨by rfl, ?_⟩) (by assumption) ?_
  rotate_left
  · (intro w hSw; (try dsimp only at hSw); go_simp; try with_reducible rfl)
  try simp only [Act.put, List.setIfInBounds_toArray, List.set_cons_zero, List.set_cons_succ]
  refine wpAnyH_take (i := 6) (oi := ⟨some 23, .load 3 (.tmp 22), 3, "lines.go:127", #[⟨5, .data⟩], none⟩) (v := ?_) rfl (by kernel_rfl) (by kernel_rfl) (by kernel_rfl) (fun _ _ _ h => h) (Or.inl ⟨by rfl, ?_⟩) (by assumption) ?_
  rotate_left
  · (intro w hSw; (try dsimp only at hSw); go_simp; try with_reducible rfl)
  try simp only [Act.put, List.setIfInBounds_toArray, List.set_cons_zero, List.set_cons_succ]
  refine wpAnyH_take (i := 9) (oi := ⟨some 26, .fieldAddr 80 (.tmp 1) 3, 0, "lines.go:127", #[], none⟩) (v := ?_) rfl (by kernel_rfl) (by kernel_rfl) (by kernel_rfl) (fun _ _ _ h => h) (Or.inl ⟨by rfl, ?_⟩) (by assumption) ?_
  rotate_left
  · (intro w hSw; (try dsimp only at hSw); go_simp; try with_reducible rfl)
  try simp only [Act.put, List.setIfInBounds_toArray, List.set_cons_zero, List.set_cons_succ]
  refine wpAnyH_take (i := 10) (oi := ⟨some 27, .load 4 (.tmp 26), 4, "lines.go:127", #[⟨9, .data⟩], none⟩) (v := ?_) rfl (by kernel_rfl) (by kernel_rfl) (by kernel_rfl) (fun _ _ _ h => h) (Or.inl ⟨by rfl, ?_⟩) (by assumption) ?_
  rotate_left
  · (intro w hSw; (try dsimp only at hSw); go_simp; try with_reducible rfl)
  try simp only [Act.put, List.setIfInBounds_toArray, List.set_cons_zero, List.set_cons_succ]
  refine wpAnyH_ready (rs := [7]) (by kernel_rfl) (by simp) ?_
  refine AllReadyH.cons (o := ⟨some 24, .call { callee := .value (.func 56), args := #[.tmp 23], argTypes := #[3] }, 9, "lines.go:127", #[⟨6, .data⟩], none⟩) rfl (fun K hK => ?_) AllReadyH.nil
  go_simp
  refine (HSz.out _ HS).mono ?_
  rintro z wa ⟨rfl, hB'⟩
  replace HS := HS.trans (hB'.mono HS.size)
  clear hB'
  refine hK.out _ _ ?_ (fun hHeld => ?_)
  · exact ⟨HS, (HS.cell ht1).trans x0, (HS.cell ht1).trans x2, (HS.cell ht1).trans x3⟩
  clear hK K
  try simp only [Act.put, List.setIfInBounds_toArray, List.set_cons_zero, List.set_cons_succ]
  refine wpAnyH_take (i := 8) (oi := ⟨some 25, .binOp .add 9 (.tmp 21) (.tmp 24) 9, 9, "lines.go:127", #[⟨4, .data⟩, ⟨7, .data⟩], none⟩) (v := .string B8) rfl (by kernel_rfl) (by kernel_rfl) (by kernel_rfl) (fun _ _ _ h => h) (Or.inl ⟨by rfl, ?_⟩) (by assumption) ?_
  · (intro w hSw; (try dsimp only at hSw); go_simp)
  try simp only [Act.put, List.setIfInBounds_toArray, List.set_cons_zero, List.set_cons_succ]
  refine wpAnyH_ready (rs := [11]) (by kernel_rfl) (by simp) ?_
  refine AllReadyH.cons (o := ⟨some 28, .call { callee := .value (.func 125), args := #[.tmp 27], argTypes := #[4] }, 9, "lines.go:127", #[⟨10, .data⟩, ⟨7, .chain⟩], none⟩) rfl (fun K hK => ?_) AllReadyH.nil
  go_simp
  refine (HSec.out _).mono ?_
  rintro z wa ⟨rfl, rfl⟩
  refine hK.out _ _ ?_ (fun hHeld => ?_)
  · exact ⟨HS, (HS.cell ht1).trans x0, (HS.cell ht1).trans x2, (HS.cell ht1).trans x3⟩
  clear hK K
  try simp only [Act.put, List.setIfInBounds_toArray, List.set_cons_zero, List.set_cons_succ]
  refine wpAnyH_take (i := 12) (oi := ⟨some 29, .binOp .add 9 (.tmp 25) (.tmp 28) 9, 9, "lines.go:127", #[⟨8, .data⟩, ⟨11, .data⟩], none⟩) (v := .string B12) rfl (by kernel_rfl) (by kernel_rfl) (by kernel_rfl) (fun _ _ _ h => h) (Or.inl ⟨by rfl, ?_⟩) (by assumption) ?_
  · (intro w hSw; (try dsimp only at hSw); go_simp)
  try simp only [Act.put, List.setIfInBounds_toArray, List.set_cons_zero, List.set_cons_succ]
  refine wpAnyH_take (i := 13) (oi := ⟨some 30, .binOp .add 9 (.tmp 29) (.const (.string ⟨#[59]⟩)) 9, 9, "lines.go:127", #[⟨12, .data⟩], none⟩) (v := .string B13) rfl (by kernel_rfl) (by kernel_rfl) (by kernel_rfl) (fun _ _ _ h => h) (Or.inl ⟨by rfl, ?_⟩) (by assumption) ?_
  · (intro w hSw; (try dsimp only at hSw); go_simp)
  try simp only [Act.put, List.setIfInBounds_toArray, List.set_cons_zero, List.set_cons_succ]
  refine wpAnyH_take (i := 14) (oi := ⟨some 2, .assign (.tmp 30), 9, "lines.go:127", #[⟨13, .data⟩, ⟨11, .chain⟩, ⟨0, .phase⟩, ⟨1, .phase⟩, ⟨2, .phase⟩, ⟨3, .phase⟩, ⟨4, .phase⟩, ⟨5, .phase⟩, ⟨6, .phase⟩, ⟨7, .phase⟩, ⟨8, .phase⟩, ⟨9, .phase⟩, ⟨10, .phase⟩, ⟨11, .phase⟩, ⟨12, .phase⟩, ⟨13, .phase⟩], none⟩) (v := ?_) rfl (by kernel_rfl) (by kernel_rfl) (by kernel_rfl) (fun _ _ _ h => h) (Or.inl ⟨by rfl, ?_⟩) (by assumption) ?_
  rotate_left
  · (intro w hSw; (try dsimp only at hSw); go_simp; try with_reducible rfl)
  try simp only [Act.put, List.setIfInBounds_toArray, List.set_cons_zero, List.set_cons_succ]
  refine wpAnyH_done (by kernel_rfl) ?_ _
  have HE := Lib.hid (HB1.out.trans (HS.mono HB1.out.size))
  go_wp2_with fail
  go_ret
  exact ⟨ret_strE HF.out.symm, HE.out⟩
set_option maxRecDepth 100000 in
set_option maxHeartbeats 6400000 in
theorem varLine_3 (nm : List UInt8) (sz : Int) (sc : Bool) (hsz : 0 ≤ sz) (hsu : sz ≤ 9223372036854775807) (w : World) (hG : Glob w) (hlen : nm.length + (Lib.decDigits sz.toNat).length + (secT sc).length ≤ 1000000) :
    Calls Tryz.prog 127 #[.agg #[.string (str nm), .int .i64 3, .int .i64 sz, .bool sc]] w fun z w' => z = .returned (.string (str ((((([115, 116, 97, 99, 107, 32] ++ nm) ++ [32]) ++ Lib.decDigits sz.toNat) ++ secT sc) ++ [59]))) ∧ Below w.heap.size w w' := by
  obtain ⟨NM, hNM⟩ : ∃ A, A = str (nm) := ⟨_, rfl⟩
  obtain ⟨A1, hA1⟩ : ∃ A, A = str (Lib.decDigits sz.toNat) := ⟨_, rfl⟩
  obtain ⟨A2, hA2⟩ : ∃ A, A = str (secT sc) := ⟨_, rfl⟩
  obtain ⟨W1, hW1⟩ : ∃ W1, w.alloc (.cells #[.string NM, .int .i64 3, .int .i64 sz, .bool sc] 80) = W1 := ⟨_, rfl⟩
  have hB1 : Below w.heap.size w W1 := by rw [← hW1]; exact (Below.refl _ _).alloc (Nat.le_refl _) _
  have hz1 : W1.heap.size = w.heap.size + 1 := by rw [← hW1]; simp
  have hk : W1.heap[w.heap.size]? = some (.cells #[.string NM, .int .i64 3, .int .i64 sz, .bool sc] 80 (0, 0)) := by rw [← hW1]; exact heap_alloc_new w _
  have ht1 : w.heap.size < W1.heap.size := by omega
  have hG1 := hG.later hB1
  have HB1 := Lib.hid hB1
  have HSz := Lib.hid (fun (w1 : World) (hB : Below W1.heap.size W1 w1) => itoa_any sz hsz hsu w1 (hG1.later hB))
  have HSc : ∀ w : World, Calls Tryz.prog 125 #[.bool sc] w fun e w' => e = .returned (.string A2) ∧ w = w' := fun w => by rw [hA2]; exact secret_any sc w
  have HSec := Lib.hid HSc
  rw [← hA1] at HSz
  have x0 : W1.cell? ⟨w.heap.size, 0, none⟩ = some (.string NM) := cell_block hk rfl
  have x1 : W1.cell? ⟨w.heap.size, 1, none⟩ = some (.int .i64 3) := cell_block hk rfl
  have x2 : W1.cell? ⟨w.heap.size, 2, none⟩ = some (.int .i64 sz) := cell_block hk rfl
  have x3 : W1.cell? ⟨w.heap.size, 3, none⟩ = some (.bool sc) := cell_block hk rfl
  obtain ⟨B3, hB3⟩ : ∃ B, B = str ([115, 116, 97, 99, 107, 32] ++ nm) := ⟨_, rfl⟩
  obtain ⟨B4, hB4⟩ : ∃ B, B = str (([115, 116, 97, 99, 107, 32] ++ nm) ++ [32]) := ⟨_, rfl⟩
  obtain ⟨B8, hB8⟩ : ∃ B, B = str ((([115, 116, 97, 99, 107, 32] ++ nm) ++ [32]) ++ Lib.decDigits sz.toNat) := ⟨_, rfl⟩
  obtain ⟨B12, hB12⟩ : ∃ B, B = str (((([115, 116, 97, 99, 107, 32] ++ nm) ++ [32]) ++ Lib.decDigits sz.toNat) ++ secT sc) := ⟨_, rfl⟩
  obtain ⟨B13, hB13⟩ : ∃ B, B = str ((((([115, 116, 97, 99, 107, 32] ++ nm) ++ [32]) ++ Lib.decDigits sz.toNat) ++ secT sc) ++ [59]) := ⟨_, rfl⟩
  have qB3 : ∀ w : World, (Op.stringOp .add ⟨#[115, 116, 97, 99, 107, 32]⟩ NM).run Tryz.prog w = .ok (.string B3) w := fun w => by
    (try rw [hB3]); (try rw [hNM]); exact add_str ([115, 116, 97, 99, 107, 32]) (nm) (by simp only [List.length_cons, List.length_nil] at hlen ⊢; omega) w
  have qB4 : ∀ w : World, (Op.stringOp .add B3 ⟨#[32]⟩).run Tryz.prog w = .ok (.string B4) w := fun w => by
    (try rw [hB4]); (try rw [hB3]); exact add_str (([115, 116, 97, 99, 107, 32] ++ nm)) ([32]) (by simp only [List.length_append, List.length_cons, List.length_nil] at hlen ⊢; omega) w
  have qB8 : ∀ w : World, (Op.stringOp .add B4 A1).run Tryz.prog w = .ok (.string B8) w := fun w => by
    (try rw [hB8]); (try rw [hB4]); (try rw [hA1]); exact add_str ((([115, 116, 97, 99, 107, 32] ++ nm) ++ [32])) (Lib.decDigits sz.toNat) (by simp only [List.length_append, List.length_cons, List.length_nil] at hlen ⊢; omega) w
  have qB12 : ∀ w : World, (Op.stringOp .add B8 A2).run Tryz.prog w = .ok (.string B12) w := fun w => by
    (try rw [hB12]); (try rw [hB8]); (try rw [hA2]); exact add_str (((([115, 116, 97, 99, 107, 32] ++ nm) ++ [32]) ++ Lib.decDigits sz.toNat)) (secT sc) (by simp only [List.length_append, List.length_cons, List.length_nil] at hlen ⊢; omega) w
  have qB13 : ∀ w : World, (Op.stringOp .add B12 ⟨#[59]⟩).run Tryz.prog w = .ok (.string B13) w := fun w => by
    (try rw [hB13]); (try rw [hB12]); exact add_str ((((([115, 116, 97, 99, 107, 32] ++ nm) ++ [32]) ++ Lib.decDigits sz.toNat) ++ secT sc)) ([59]) (by simp only [List.length_append, List.length_cons, List.length_nil] at hlen ⊢; omega) w
  have HF := Lib.hid (show str ((((([115, 116, 97, 99, 107, 32] ++ nm) ++ [32]) ++ Lib.decDigits sz.toNat) ++ secT sc) ++ [59]) = B13 by rw [hB13])
  rw [← hNM]
  clear hNM hA1 hA2 HSc hB3 hB4 hB8 hB12 hB13 hk hG hG1 hB1 hsz hsu
  go_enter Tryz.func127, Tryz.ntmps127
  go_wp2_with fail
  try rw [hW1]
  clear hW1
  have HS : Below W1.heap.size W1 W1.drew := (Below.refl _ _).drew
  refine wp_region_held_drew (S := fun W => Below W1.heap.size W1 W ∧ W.cell? ⟨w.heap.size, 0, none⟩ = some (.string NM) ∧ W.cell? ⟨w.heap.size, 2, none⟩ = some (.int .i64 sz) ∧ W.cell? ⟨w.heap.size, 3, none⟩ = some (.bool sc)) (by kernel_rfl) ?_ (fun hHeld => ?_)
  · exact ⟨HS, (HS.cell ht1).trans x0, (HS.cell ht1).trans x2, (HS.cell ht1).trans x3⟩
  refine wpAnyH_take (i := 0) (oi := ⟨some 17, .move (.tmp 3), 9, "lines.go:127", #[], none⟩) (v := ?_) rfl (by kernel_rfl) (by kernel_rfl) (by kernel_rfl) (fun _ _ _ h => h) (Or.inl ⟨by rfl, ?_⟩) (by assumption) ?_
  rotate_left
  · (intro w hSw; (try dsimp only at hSw); go_simp; try with_reducible rfl)
  try simp only [Act.put, List.setIfInBounds_toArray, List.set_cons_zero, List.set_cons_succ]
  refine wpAnyH_take (i := 1) (oi := ⟨some 18, .fieldAddr 80 (.tmp 1) 0, 0, "lines.go:127", #[], none⟩) (v := ?_) rfl (by kernel_rfl) (by kernel_rfl) (by kernel_rfl) (fun _ _ _ h => h) (Or.inl ⟨by rfl, ?_⟩) (by assumption) ?_
  rotate_left
  · (intro w hSw; (try dsimp only at hSw); go_simp; try with_reducible rfl)
  try simp only [Act.put, List.setIfInBounds_toArray, List.set_cons_zero, List.set_cons_succ]
  refine wpAnyH_take (i := 2) (oi := ⟨some 19, .load 9 (.tmp 18), 9, "lines.go:127", #[⟨1, .data⟩], none⟩) (v := ?_) rfl (by kernel_rfl) (by kernel_rfl) (by kernel_rfl) (fun _ _ _ h => h) (Or.inl ⟨by rfl, ?_⟩) (by assumption) ?_
  rotate_left
  · (intro w hSw; (try dsimp only at hSw); go_simp; try with_reducible rfl)
  try simp only [Act.put, List.setIfInBounds_toArray, List.set_cons_zero, List.set_cons_succ]
  refine wpAnyH_take (i := 3) (oi := ⟨some 20, .binOp .add 9 (.tmp 17) (.tmp 19) 9, 9, "lines.go:127", #[⟨0, .data⟩, ⟨2, .data⟩], none⟩) (v := .string B3) rfl (by kernel_rfl) (by kernel_rfl) (by kernel_rfl) (fun _ _ _ h => h) (Or.inl ⟨by rfl, ?_⟩) (by assumption) ?_
  · (intro w hSw; (try dsimp only at hSw); go_simp)
  try simp only [Act.put, List.setIfInBounds_toArray, List.set_cons_zero, List.set_cons_succ]
  refine wpAnyH_take (i := 4) (oi := ⟨some 21, .binOp .add 9 (.tmp 20) (.const (.string ⟨#[32]⟩)) 9, 9, "lines.go:127", #[⟨3, .data⟩], none⟩) (v := .string B4) rfl (by kernel_rfl) (by kernel_rfl) (by kernel_rfl) (fun _ _ _ h => h) (Or.inl ⟨by rfl, ?_⟩) (by assumption) ?_
  · (intro w hSw; (try dsimp only at hSw); go_simp)
  try simp only [Act.put, List.setIfInBounds_toArray, List.set_cons_zero, List.set_cons_succ]
  refine wpAnyH_take (i := 5) (oi := ⟨some 22, .fieldAddr 80 (.tmp 1) 2, 0, "lines.go:127", #[], none⟩) (v := ?_) rfl (by kernel_rfl) (by kernel_rfl) (by kernel_rfl) (fun _ _ _ h => h) (Or.inl ⟨by rfl, ?_⟩) (by assumption) ?_
  rotate_left
  · (intro w hSw; (try dsimp only at hSw); go_simp; try with_reducible rfl)
  try simp only [Act.put, List.setIfInBounds_toArray, List.set_cons_zero, List.set_cons_succ]
  refine wpAnyH_take (i := 6) (oi := ⟨some 23, .load 3 (.tmp 22), 3, "lines.go:127", #[⟨5, .data⟩], none⟩) (v := ?_) rfl (by kernel_rfl) (by kernel_rfl) (by kernel_rfl) (fun _ _ _ h => h) (Or.inl ⟨by rfl, ?_⟩) (by assumption) ?_
  rotate_left
  · (intro w hSw; (try dsimp only at hSw); go_simp; try with_reducible rfl)
  try simp only [Act.put, List.setIfInBounds_toArray, List.set_cons_zero, List.set_cons_succ]
  refine wpAnyH_take (i := 9) (oi := ⟨some 26, .fieldAddr 80 (.tmp 1) 3, 0, "lines.go:127", #[], none⟩) (v := ?_) rfl (by kernel_rfl) (by kernel_rfl) (by kernel_rfl) (fun _ _ _ h => h) (Or.inl ⟨by rfl, ?_⟩) (by assumption) ?_
  rotate_left
  · (intro w hSw; (try dsimp only at hSw); go_simp; try with_reducible rfl)
  try simp only [Act.put, List.setIfInBounds_toArray, List.set_cons_zero, List.set_cons_succ]
  refine wpAnyH_take (i := 10) (oi := ⟨some 27, .load 4 (.tmp 26), 4, "lines.go:127", #[⟨9, .data⟩], none⟩) (v := ?_) rfl (by kernel_rfl) (by kernel_rfl) (by kernel_rfl) (fun _ _ _ h => h) (Or.inl ⟨by rfl, ?_⟩) (by assumption) ?_
  rotate_left
  · (intro w hSw; (try dsimp only at hSw); go_simp; try with_reducible rfl)
  try simp only [Act.put, List.setIfInBounds_toArray, List.set_cons_zero, List.set_cons_succ]
  refine wpAnyH_ready (rs := [7]) (by kernel_rfl) (by simp) ?_
  refine AllReadyH.cons (o := ⟨some 24, .call { callee := .value (.func 56), args := #[.tmp 23], argTypes := #[3] }, 9, "lines.go:127", #[⟨6, .data⟩], none⟩) rfl (fun K hK => ?_) AllReadyH.nil
  go_simp
  refine (HSz.out _ HS).mono ?_
  rintro z wa ⟨rfl, hB'⟩
  replace HS := HS.trans (hB'.mono HS.size)
  clear hB'
  refine hK.out _ _ ?_ (fun hHeld => ?_)
  · exact ⟨HS, (HS.cell ht1).trans x0, (HS.cell ht1).trans x2, (HS.cell ht1).trans x3⟩
  clear hK K
  try simp only [Act.put, List.setIfInBounds_toArray, List.set_cons_zero, List.set_cons_succ]
  refine wpAnyH_take (i := 8) (oi := ⟨some 25, .binOp .add 9 (.tmp 21) (.tmp 24) 9, 9, "lines.go:127", #[⟨4, .data⟩, ⟨7, .data⟩], none⟩) (v := .string B8) rfl (by kernel_rfl) (by kernel_rfl) (by kernel_rfl) (fun _ _ _ h => h) (Or.inl ⟨by rfl, ?_⟩) (by assumption) ?_
  · (intro w hSw; (try dsimp only at hSw); go_simp)
  try simp only [Act.put, List.setIfInBounds_toArray, List.set_cons_zero, List.set_cons_succ]
  refine wpAnyH_ready (rs := [11]) (by kernel_rfl) (by simp) ?_
  refine AllReadyH.cons (o := ⟨some 28, .call { callee := .value (.func 125), args := #[.tmp 27], argTypes := #[4] }, 9, "lines.go:127", #[⟨10, .data⟩, ⟨7, .chain⟩], none⟩) rfl (fun K hK => ?_) AllReadyH.nil
  go_simp
  refine (HSec.out _).mono ?_
  rintro z wa ⟨rfl, rfl⟩
  refine hK.out _ _ ?_ (fun hHeld => ?_)
  · exact ⟨HS, (HS.cell ht1).trans x0, (HS.cell ht1).trans x2, (HS.cell ht1).trans x3⟩
  clear hK K
  try simp only [Act.put, List.setIfInBounds_toArray, List.set_cons_zero, List.set_cons_succ]
  refine wpAnyH_take (i := 12) (oi := ⟨some 29, .binOp .add 9 (.tmp 25) (.tmp 28) 9, 9, "lines.go:127", #[⟨8, .data⟩, ⟨11, .data⟩], none⟩) (v := .string B12) rfl (by kernel_rfl) (by kernel_rfl) (by kernel_rfl) (fun _ _ _ h => h) (Or.inl ⟨by rfl, ?_⟩) (by assumption) ?_
  · (intro w hSw; (try dsimp only at hSw); go_simp)
  try simp only [Act.put, List.setIfInBounds_toArray, List.set_cons_zero, List.set_cons_succ]
  refine wpAnyH_take (i := 13) (oi := ⟨some 30, .binOp .add 9 (.tmp 29) (.const (.string ⟨#[59]⟩)) 9, 9, "lines.go:127", #[⟨12, .data⟩], none⟩) (v := .string B13) rfl (by kernel_rfl) (by kernel_rfl) (by kernel_rfl) (fun _ _ _ h => h) (Or.inl ⟨by rfl, ?_⟩) (by assumption) ?_
  · (intro w hSw; (try dsimp only at hSw); go_simp)
  try simp only [Act.put, List.setIfInBounds_toArray, List.set_cons_zero, List.set_cons_succ]
  refine wpAnyH_take (i := 14) (oi := ⟨some 2, .assign (.tmp 30), 9, "lines.go:127", #[⟨13, .data⟩, ⟨11, .chain⟩, ⟨0, .phase⟩, ⟨1, .phase⟩, ⟨2, .phase⟩, ⟨3, .phase⟩, ⟨4, .phase⟩, ⟨5, .phase⟩, ⟨6, .phase⟩, ⟨7, .phase⟩, ⟨8, .phase⟩, ⟨9, .phase⟩, ⟨10, .phase⟩, ⟨11, .phase⟩, ⟨12, .phase⟩, ⟨13, .phase⟩], none⟩) (v := ?_) rfl (by kernel_rfl) (by kernel_rfl) (by kernel_rfl) (fun _ _ _ h => h) (Or.inl ⟨by rfl, ?_⟩) (by assumption) ?_
  rotate_left
  · (intro w hSw; (try dsimp only at hSw); go_simp; try with_reducible rfl)
  try simp only [Act.put, List.setIfInBounds_toArray, List.set_cons_zero, List.set_cons_succ]
  refine wpAnyH_done (by kernel_rfl) ?_ _
  have HE := Lib.hid (HB1.out.trans (HS.mono HB1.out.size))
  go_wp2_with fail
  go_ret
  exact ⟨ret_strE HF.out.symm, HE.out⟩
theorem varLine_any (x : Vr) (hm : x.may = true) (hf : x.fit) (w : World) (hG : Glob w) (hl : x.line.length ≤ 1000000) :
    Calls Tryz.prog 127 #[.agg #[.string (str x.name), .int .i64 x.kind, .int .i64 x.size, .bool x.secret]] w fun z w' => z = .returned (.string (str x.line)) ∧ Below w.heap.size w w' := by
  obtain ⟨nm, kd, sz, sc⟩ := x
  unfold Vr.may Vr.mayP at hm
  unfold Vr.line Vr.word at hl ⊢
  obtain ⟨_, hsu⟩ := hf
  simp only [] at hm hl hsu ⊢
  by_cases h1 : kd = 1
  · subst h1
    rw [if_pos rfl] at hl ⊢
    simp only [List.length_append, List.length_cons, List.length_nil] at hl
    exact varLine_1 nm sz sc w (by omega)
  · rw [if_neg h1] at hm hl ⊢
    by_cases h2 : kd = 2
    · subst h2
      simp only [if_true, true_or, Bool.and_eq_true, decide_eq_true_eq] at hm hl ⊢
      simp only [List.length_append, List.length_cons, List.length_nil] at hl
      exact varLine_2 nm sz sc hm.2 hsu w hG (by omega)
    · by_cases h3 : kd = 3
      · subst h3
        rw [if_neg h2] at hl ⊢
        simp only [or_true, if_true, Bool.and_eq_true, decide_eq_true_eq] at hm
        simp only [List.length_append, List.length_cons, List.length_nil] at hl
        exact varLine_3 nm sz sc hm.2 hsu w hG (by omega)
      · rw [if_neg (by omega)] at hm; cases hm
end Go.Proofs.YtlhbledakddbbaaGreatDoor
/- A function's first line. -/
namespace Go.Proofs.YtlhbledakddbbaaGreatDoor
open Go.RowKit

theorem make_strs (n : Nat) (hn : n ≤ 1000000) : ∃ Z : Array Value, (∀ w : World, (Instr.makeSlice 46 (.int .i64 n) (.int .i64 n)).run Tryz.prog w = .ok (.slice (some ⟨w.heap.size, 0, none⟩) n n) (w.alloc (.cells Z 9 (0, 0)))) ∧ ∀ j, j < n → Z[j]? = some (.string ⟨#[]⟩) := by
  obtain ⟨i0, hi, hz0, hz1, hz2⟩ := info_parts info_str
  refine ⟨madeCells #[.string ⟨#[]⟩] n, fun w => ?_, fun j hj => ?_⟩
  · have h := run_make (P := Tryz.prog) w 46 9 i0 (.string ⟨#[]⟩) Tryz.underlying46 hi hz0 .i64 .i64 n n (by omega) (by omega) (by rw [hz2]; omega) (by omega)
    rw [hz1, Nat.mul_one] at h
    exact h
  · have h := toList_madeCells_one (.string ⟨#[]⟩) n
    rw [← Array.getElem?_toList, h, List.getElem?_replicate, if_pos hj]
/-- the texts so far -/
def OutP (w : World) (g k : Nat) (ts : List (List UInt8)) : Prop :=
  g < w.heap.size ∧ ∀ i t, ts[i]? = some t → ∃ u, w.cell? ⟨g, i, none⟩ = some u ∧ w.frozen? ⟨g, i, none⟩ = false ∧ (i < k → u = .string (str t))
theorem OutP.later {w w' : World} {g k : Nat} {ts : List (List UInt8)} (h : OutP w g k ts) (hB : Below w.heap.size w w') : OutP w' g k ts :=
  ⟨Nat.lt_of_lt_of_le h.1 hB.size, fun i t ht => by
    obtain ⟨u, h1, h2, h3⟩ := h.2 i t ht
    exact ⟨u, (hB.cell (p := ⟨g, i, none⟩) h.1).trans h1, (hB.frozen (p := ⟨g, i, none⟩) h.1).trans h2, h3⟩⟩
theorem OutP.put {w : World} {g k : Nat} {ts : List (List UInt8)} {t : List UInt8} (h : OutP w g k ts) (hk : ts[k]? = some t) : OutP (w.setCell ⟨g, k, none⟩ (.string (str t))) g (k + 1) ts := by
  refine ⟨by simp [World.setCell]; exact h.1, fun i t' ht => ?_⟩
  obtain ⟨u, h1, h2, h3⟩ := h.2 i t' ht
  by_cases e : i = k
  · subst e
    rw [hk] at ht; cases ht
    exact ⟨_, World.cell?_setCell_same _ _ _ h1, by rw [World.frozen?_setCell]; exact h2, fun _ => rfl⟩
  · refine ⟨u, ?_, by rw [World.frozen?_setCell]; exact h2, fun hik => h3 (by omega)⟩
    rw [World.cell?_setCell_other _ _ _ _ (fun h => e (by cases h; rfl))]; exact h1
theorem OutP.join {w : World} {g : Nat} {ts : List (List UInt8)} (h : OutP w g ts.length ts) (hn : ts.length ≤ 1000000) (hl : (Lib.join ts [44, 32]).length ≤ 1000000) :
    Calls Tryz.prog 138 #[.slice (some ⟨g, 0, none⟩) ts.length ts.length, .string ⟨#[44, 32]⟩] w fun e w' => e = .returned (.string (str (Lib.join ts [44, 32]))) ∧ Below w.heap.size w w' := by
  by_cases h0 : ts.length = 0
  · have : ts = [] := List.length_eq_zero_iff.1 h0
    subst this
    refine (Tryz.strings_Join_none _ 0 ⟨#[44, 32]⟩ w).mono ?_
    rintro e w' ⟨rfl, rfl⟩
    exact ⟨rfl, Below.refl _ _⟩
  · have hd := map_data ts
    have hs : (⟨#[44, 32]⟩ : ByteArray).data.toList = [44, 32] := rfl
    have := Tryz.strings_Join g 0 ts.length (ts.map str) ⟨#[44, 32]⟩ w (fun j x hx => by
      rw [List.getElem?_map] at hx
      obtain ⟨t, ht, rfl⟩ := Option.map_eq_some_iff.1 hx
      obtain ⟨u, hu, _, hr⟩ := h.2 j t ht
      rw [Nat.zero_add, hu, hr (List.getElem?_eq_some_iff.1 ht).1]) h.1 (by rw [List.length_map]; omega) (by rw [List.length_map]; exact Nat.le_refl _) (by rw [hd, hs]; omega)
    rw [List.length_map, hd, hs] at this
    exact this
theorem join_mem : ∀ (ts : List (List UInt8)) (i : Nat) (t : List UInt8), ts[i]? = some t → t.length ≤ (Lib.join ts [44, 32]).length
  | x :: r, 0, t, h => by simp at h; subst h; rw [Lib.join_cons]; simp
  | x :: r, i + 1, t, h => by
    have := join_mem_tail r i t (by simpa using h)
    rw [Lib.join_cons, List.length_append]; omega
  | [], i, t, h => by simp at h
where join_mem_tail : ∀ (ts : List (List UInt8)) (i : Nat) (t : List UInt8), ts[i]? = some t → t.length ≤ (Lib.joinTail [44, 32] ts).length
  | x :: r, 0, t, h => by simp at h; subst h; simp [Lib.joinTail]; omega
  | x :: r, i + 1, t, h => by
    have := join_mem_tail r i t (by simpa using h)
    have e : Lib.joinTail [44, 32] (x :: r) = 44 :: 32 :: (x ++ Lib.joinTail [44, 32] r) := by simp [Lib.joinTail]
    rw [e]; simp only [List.length_cons, List.length_append]; omega
  | [], i, t, h => by simp at h

set_option maxRecDepth 100000 in
set_option maxHeartbeats 6400000 in
theorem funcLine_any (f : Fnc) (b o : Nat) (w : World) (hb : b < w.heap.size) (h : f.At w w.heap.size b o) (hp : f.params.length ≤ 1000000) (hl : f.head.length ≤ 1000000) :
    Calls Tryz.prog 126 #[.pointer (some ⟨b, o, none⟩)] w fun e w' => e = .returned (.string (str f.head)) ∧ Below w.heap.size w w' := by
  obtain ⟨nm, ps, vs, rs, bd⟩ := f
  obtain ⟨s, c, ok⟩ := h.open
  have x0 : w.cell? ⟨b, o, none⟩ = some (.string (str nm)) := c 0 _ rfl
  have x1 : w.cell? ⟨b, o + 1, none⟩ = some (.slice s.pp ps.length s.cp) := c 1 _ rfl
  have x3 : w.cell? ⟨b, o + 3, none⟩ = some (.slice s.pr rs.length s.cr) := c 3 _ rfl
  simp only [] at hp
  obtain ⟨ok1, _, ⟨hcr, ok3⟩, _⟩ := ok
  simp only [] at ok1 ok3 hcr
  obtain ⟨JP, hJP⟩ : ∃ k, k = Lib.join (ps.map Vr.param) [44, 32] := ⟨_, rfl⟩
  obtain ⟨JR, hJR⟩ : ∃ k, k = Lib.join rs [44, 32] := ⟨_, rfl⟩
  have hT : (Fnc.mk nm ps vs rs bd).head = ((([102, 110, 32] ++ nm ++ [40] ++ JP ++ [41]) ++ (if rs.length = 0 then [] else [32, 45, 62, 32] ++ JR)) ++ [32, 123]) := by rw [hJP, hJR]; rfl
  rw [hT] at hl
  have hlen : nm.length + JP.length ≤ 1000000 ∧ (rs.length ≠ 0 → nm.length + JP.length + JR.length ≤ 1000000) := by
    by_cases h0 : rs.length = 0
    · rw [if_pos h0] at hl; simp only [List.length_append, List.length_cons, List.length_nil] at hl; exact ⟨by omega, fun h => absurd h0 h⟩
    · rw [if_neg h0] at hl; simp only [List.length_append, List.length_cons, List.length_nil] at hl; exact ⟨by omega, fun _ => by omega⟩
  have HJm := Lib.hid (fun i t h => by have := join_mem (ps.map Vr.param) i t h; rw [← hJP] at this; exact this)
  obtain ⟨Z, hmk, hZ⟩ := make_strs ps.length hp
  have HZ := Lib.hid hZ
  have S1 := Lib.hid ok1
  have HJn := Lib.hid (fun (w1 : World) (h : OutP w1 w.heap.size (ps.map Vr.param).length (ps.map Vr.param)) => h.join (by rw [List.length_map]; exact hp) (by rw [← hJP]; omega))
  rw [← hJP, List.length_map] at HJn
  have HRt := Lib.hid (fun (h0 : rs.length ≠ 0) (w1 : World) (hB : Below w.heap.size w w1) => join_any rs s.pr s.cr w.heap.size w1 hB.size ⟨hcr, ok3.imp (Nat.le_refl _) (StrAt.later hB)⟩ (by rw [← hJR]; have := hlen.2 h0; omega))
  rw [← hJR] at HRt
  obtain ⟨TT, hTT⟩ : ∃ k, k = str (Fnc.mk nm ps vs rs bd).head := ⟨_, rfl⟩
  have HT := Lib.hid (hTT.trans (congrArg str hT))
  have hpl : ps.length ≤ 140737488355328 := ok1.1
  clear hJP hJR hT hl h c ok1 ok3 hcr hZ
  rw [← hTT]
  clear hTT
  go_enter Tryz.func126, Tryz.ntmps126
  go_wp2_with fail
  obtain ⟨w1, hw1⟩ : ∃ w1, w.alloc (.cells Z 9 (0, 0)) = w1 := ⟨_, rfl⟩
  have HB1 := Lib.hid (show Below w.heap.size w w1 by rw [← hw1]; exact (Below.refl _ _).alloc (Nat.le_refl _) _)
  have HO1 : Hid (OutP w1 w.heap.size 0 (ps.map Vr.param)) := Lib.hid ⟨by rw [← hw1]; simp, fun i t ht =>
    ⟨.string ⟨#[]⟩, by rw [← hw1, cell_of_row _ _ _ _ _ _ (heap_alloc_new w _)]; exact HZ.out i (by have := (List.getElem?_eq_some_iff.1 ht).1; simpa using this), by rw [← hw1]; unfold World.frozen?; simp only [heap_alloc_new w (.cells Z 9 (0, 0))]; simp, fun h => absurd h (Nat.not_lt_zero _)⟩⟩
  have x11 := (HB1.out.cell (p := ⟨b, o + 1, none⟩) hb).trans x1
  rw [hw1]
  clear hw1 hmk
  go_wp2_with fail
  go_loopw [18] (fun i wr => ∃ k : Nat, i = .int .i64 k ∧ k ≤ ps.length ∧ Hid (OutP wr w.heap.size k (ps.map Vr.param)) ∧ Hid (Below w.heap.size w wr)) (fun i _ => ps.length - (intOf i).toNat)
  case atStart => exact ⟨0, rfl, by omega, HO1, HB1⟩
  case round =>
    obtain ⟨k, rfl, hk, hOut, hB⟩ := hrel
    by_cases hlt : k < ps.length
    · obtain ⟨v, hv⟩ : ∃ v, ps[k]? = some v := ⟨_, List.getElem?_eq_getElem hlt⟩
      have hm : (ps.map Vr.param)[k]? = some v.param := by rw [List.getElem?_map, hv]; rfl
      obtain ⟨b1, o1, hpp, hb1, hA⟩ : ∃ b o, s.pp = some ⟨b, o, none⟩ ∧ b < w.heap.size ∧ Row (Vr.At w) 4 ps b o := by
        rcases S1.out.2 with h0 | h0
        · omega
        · exact h0
      have hAt := Vr.At.later hB.out v b1 _ hb1 (hA.get hv)
      obtain ⟨vn, vk, vz, vsec⟩ := v
      obtain ⟨c0, c1, c2, c3⟩ := hAt
      have hpl2 := HJm.out k _ hm
      have hlen2 : vn.length + (secT vsec).length ≤ 1000000 := by have := hpl2; simp only [Vr.param, List.length_append] at this; omega
      obtain ⟨u, hu, hf, _⟩ := hOut.out.2 k _ hm
      have hgz := hOut.out.1
      have hb1w : b1 < wr.heap.size := Nat.lt_of_lt_of_le hb1 hB.out.size
      simp only [] at c0 c1 c2 c3
      rw [hpp]
      clear hA

      obtain ⟨NM, hNM⟩ : ∃ A, A = str (vn) := ⟨_, rfl⟩
      obtain ⟨A2, hA2⟩ : ∃ A, A = str (secT vsec) := ⟨_, rfl⟩
      have HSc : ∀ w : World, Calls Tryz.prog 125 #[.bool vsec] w fun e w' => e = .returned (.string A2) ∧ w = w' := fun w => by rw [hA2]; exact secret_any vsec w
      have HSec := Lib.hid HSc
      rw [← hNM] at c0
      obtain ⟨B7, hB7⟩ : ∃ B, B = str (vn ++ secT vsec) := ⟨_, rfl⟩
      have qB7 : ∀ w : World, (Op.stringOp .add NM A2).run Tryz.prog w = .ok (.string B7) w := fun w => by
        (try rw [hB7]); (try rw [hNM]); (try rw [hA2]); exact add_str (vn) (secT vsec) (by (try simp only [List.length_append, List.length_cons, List.length_nil] at hlen2 ⊢); omega) w
      have hBv : B7 = str (Vr.param ⟨vn, vk, vz, vsec⟩) := hB7
      clear hNM hA2 hB7 HSc
      go_wp2_with fail
      obtain ⟨W1, hW1⟩ : ∃ W1, wr.alloc (.cells #[.string NM, .int .i64 vk, .int .i64 vz, .bool vsec] 80) = W1 := ⟨_, rfl⟩
      have hBW : Below wr.heap.size wr W1 := by rw [← hW1]; exact (Below.refl _ _).alloc (Nat.le_refl _) _
      have hk1 : W1.heap[wr.heap.size]? = some (.cells #[.string NM, .int .i64 vk, .int .i64 vz, .bool vsec] 80 (0, 0)) := by rw [← hW1]; exact heap_alloc_new wr _
      have v0 : W1.cell? ⟨wr.heap.size, 0, none⟩ = some (.string NM) := cell_block hk1 rfl
      have v3 : W1.cell? ⟨wr.heap.size, 3, none⟩ = some (.bool vsec) := cell_block hk1 rfl
      have hu1 := (hBW.cell (p := ⟨w.heap.size, k, none⟩) hgz).trans hu
      have hf1 := (hBW.frozen (p := ⟨w.heap.size, k, none⟩) hgz).trans hf
      have hne : w.heap.size ≠ wr.heap.size := Nat.ne_of_lt hgz
      have HPt : Hid (OutP (W1.drew.setCell ⟨w.heap.size, k, none⟩ (.string B7)) w.heap.size (k + 1) (ps.map Vr.param)) := Lib.hid (by rw [hBv]; exact (hOut.out.later (hBW.drew)).put hm)
      have HBn : Hid (Below w.heap.size w (W1.drew.setCell ⟨w.heap.size, k, none⟩ (.string B7))) := Lib.hid ((hB.out.trans ((hBW.drew).mono hB.out.size)).setCell (p := ⟨w.heap.size, k, none⟩) (Nat.le_refl _) _)
      rw [hW1]
      clear hW1 hk1 hBv hm hv hu hf hOut hB c0 c1 c2 c3 hBW
      refine wp_region_held_drew (S := fun W => W.cell? ⟨wr.heap.size, 0, none⟩ = some (.string NM) ∧ W.cell? ⟨wr.heap.size, 3, none⟩ = some (.bool vsec)) (by kernel_rfl) ?_ (fun hHeld => ?_)
      · exact ⟨v0, v3⟩
      refine wpAnyH_take (i := 0) (oi := ⟨some 23, .move (.tmp 3), 46, "lines.go:108", #[], none⟩) (v := ?_) rfl (by kernel_rfl) (by kernel_rfl) (by kernel_rfl) (fun _ _ _ h => h) (Or.inl ⟨by rfl, ?_⟩) (by assumption) ?_
      rotate_left
      · (intro w hSw; (try dsimp only at hSw); go_simp; try with_reducible rfl)
      try simp only [Act.put, List.setIfInBounds_toArray, List.set_cons_zero, List.set_cons_succ]
      refine wpAnyH_take (i := 1) (oi := ⟨some 24, .move (.tmp 4), 3, "lines.go:108", #[], none⟩) (v := ?_) rfl (by kernel_rfl) (by kernel_rfl) (by kernel_rfl) (fun _ _ _ h => h) (Or.inl ⟨by rfl, ?_⟩) (by assumption) ?_
      rotate_left
      · (intro w hSw; (try dsimp only at hSw); go_simp; try with_reducible rfl)
      try simp only [Act.put, List.setIfInBounds_toArray, List.set_cons_zero, List.set_cons_succ]
      refine wpAnyH_take (i := 2) (oi := ⟨some 25, .fieldAddr 80 (.tmp 5) 0, 0, "lines.go:108", #[], none⟩) (v := ?_) rfl (by kernel_rfl) (by kernel_rfl) (by kernel_rfl) (fun _ _ _ h => h) (Or.inl ⟨by rfl, ?_⟩) (by assumption) ?_
      rotate_left
      · (intro w hSw; (try dsimp only at hSw); go_simp; try with_reducible rfl)
      try simp only [Act.put, List.setIfInBounds_toArray, List.set_cons_zero, List.set_cons_succ]
      refine wpAnyH_take (i := 3) (oi := ⟨some 26, .load 9 (.tmp 25), 9, "lines.go:108", #[⟨2, .data⟩], none⟩) (v := ?_) rfl (by kernel_rfl) (by kernel_rfl) (by kernel_rfl) (fun _ _ _ h => h) (Or.inl ⟨by rfl, ?_⟩) (by assumption) ?_
      rotate_left
      · (intro w hSw; (try dsimp only at hSw); go_simp; try with_reducible rfl)
      try simp only [Act.put, List.setIfInBounds_toArray, List.set_cons_zero, List.set_cons_succ]
      refine wpAnyH_take (i := 4) (oi := ⟨some 27, .fieldAddr 80 (.tmp 5) 3, 0, "lines.go:108", #[], none⟩) (v := ?_) rfl (by kernel_rfl) (by kernel_rfl) (by kernel_rfl) (fun _ _ _ h => h) (Or.inl ⟨by rfl, ?_⟩) (by assumption) ?_
      rotate_left
      · (intro w hSw; (try dsimp only at hSw); go_simp; try with_reducible rfl)
      try simp only [Act.put, List.setIfInBounds_toArray, List.set_cons_zero, List.set_cons_succ]
      refine wpAnyH_take (i := 5) (oi := ⟨some 28, .load 4 (.tmp 27), 4, "lines.go:108", #[⟨4, .data⟩], none⟩) (v := ?_) rfl (by kernel_rfl) (by kernel_rfl) (by kernel_rfl) (fun _ _ _ h => h) (Or.inl ⟨by rfl, ?_⟩) (by assumption) ?_
      rotate_left
      · (intro w hSw; (try dsimp only at hSw); go_simp; try with_reducible rfl)
      try simp only [Act.put, List.setIfInBounds_toArray, List.set_cons_zero, List.set_cons_succ]
      refine wpAnyH_ready (rs := [6]) (by kernel_rfl) (by simp) ?_
      refine AllReadyH.cons (o := ⟨some 29, .call { callee := .value (.func 125), args := #[.tmp 28], argTypes := #[4] }, 9, "lines.go:108", #[⟨5, .data⟩], none⟩) rfl (fun K hK => ?_) AllReadyH.nil
      go_simp
      refine (HSec.out _).mono ?_
      rintro z wa ⟨rfl, rfl⟩
      refine hK.out _ _ ?_ (fun hHeld => ?_)
      · exact ⟨v0, v3⟩
      clear hK K
      try simp only [Act.put, List.setIfInBounds_toArray, List.set_cons_zero, List.set_cons_succ]
      refine wpAnyH_take (i := 7) (oi := ⟨some 30, .binOp .add 9 (.tmp 26) (.tmp 29) 9, 9, "lines.go:108", #[⟨3, .data⟩, ⟨6, .data⟩], none⟩) (v := .string B7) rfl (by kernel_rfl) (by kernel_rfl) (by kernel_rfl) (fun _ _ _ h => h) (Or.inl ⟨by rfl, ?_⟩) (by assumption) ?_
      · (intro w hSw; (try dsimp only at hSw); go_simp)
      try simp only [Act.put, List.setIfInBounds_toArray, List.set_cons_zero, List.set_cons_succ]
      refine wpAnyH_take (i := 8) (oi := ⟨some 31, .indexAddr 46 (.tmp 23) (.tmp 24), 0, "lines.go:108", #[⟨0, .data⟩, ⟨1, .data⟩, ⟨0, .phase⟩, ⟨1, .phase⟩, ⟨2, .phase⟩, ⟨3, .phase⟩, ⟨4, .phase⟩, ⟨5, .phase⟩, ⟨6, .phase⟩, ⟨7, .phase⟩], none⟩) (v := ?_) rfl (by kernel_rfl) (by kernel_rfl) (by kernel_rfl) (fun _ _ _ h => h) (Or.inl ⟨by rfl, ?_⟩) (by assumption) ?_
      rotate_left
      · (intro w hSw; (try dsimp only at hSw); go_simp; try with_reducible rfl)
      try simp only [Act.put, List.setIfInBounds_toArray, List.set_cons_zero, List.set_cons_succ]
      refine wpAnyH_ready (rs := [9]) (by kernel_rfl) (by simp) ?_
      refine AllReadyH.cons (o := ⟨none, .store 9 (.tmp 31) (.tmp 30), 0, "lines.go:108", #[⟨8, .data⟩, ⟨7, .data⟩, ⟨6, .chain⟩, ⟨0, .phase⟩, ⟨1, .phase⟩, ⟨2, .phase⟩, ⟨3, .phase⟩, ⟨4, .phase⟩, ⟨5, .phase⟩, ⟨6, .phase⟩, ⟨7, .phase⟩], none⟩) rfl (fun K hK => ?_) AllReadyH.nil
      go_simp
      refine hK.out _ _ ?_ (fun hHeld => ?_)
      · exact ⟨(World.cell?_setCell_far _ _ _ _ hne).trans v0, (World.cell?_setCell_far _ _ _ _ hne).trans v3⟩
      clear hK K
      try simp only [Act.put, List.setIfInBounds_toArray, List.set_cons_zero, List.set_cons_succ]
      refine wpAnyH_done (by kernel_rfl) ?_ _
      go_wp2_with fail
      go_roundw
      case rel => exact ⟨k + 1, by go_num, by omega, HPt, HBn⟩
      case measure => simp [intOf]; omega
    · obtain rfl : k = ps.length := by omega
      have hB2 := hB.out
      have y0 := (hB2.cell (p := ⟨b, o, none⟩) hb).trans x0
      have HJ1 := Lib.hid (HJn.out wr.drew (hOut.out.later ((Below.refl _ _).drew)))
      clear HJn hOut
      obtain ⟨NM, hNM⟩ : ∃ A, A = str (nm) := ⟨_, rfl⟩
      obtain ⟨A2, hA2⟩ : ∃ A, A = str (JP) := ⟨_, rfl⟩
      obtain ⟨A3, hA3⟩ : ∃ A, A = str (JR) := ⟨_, rfl⟩
      rw [← hNM] at y0
      rw [← hA2] at HJ1
      rw [← hA3] at HRt
      have hlen3 : nm.length + JP.length ≤ 1000000 := hlen.1
      obtain ⟨B4, hB4⟩ : ∃ B, B = str ([102, 110, 32] ++ nm) := ⟨_, rfl⟩
      obtain ⟨B5, hB5⟩ : ∃ B, B = str (([102, 110, 32] ++ nm) ++ [40]) := ⟨_, rfl⟩
      obtain ⟨B8, hB8⟩ : ∃ B, B = str (([102, 110, 32] ++ nm ++ [40]) ++ JP) := ⟨_, rfl⟩
      obtain ⟨B9, hB9⟩ : ∃ B, B = str (([102, 110, 32] ++ nm ++ [40] ++ JP) ++ [41]) := ⟨_, rfl⟩
      have qB4 : ∀ w : World, (Op.stringOp .add ⟨#[102, 110, 32]⟩ NM).run Tryz.prog w = .ok (.string B4) w := fun w => by
        (try rw [hB4]); (try rw [hNM]); exact add_str ([102, 110, 32]) (nm) (by (try simp only [List.length_cons, List.length_nil] at hlen3 ⊢); omega) w
      have qB5 : ∀ w : World, (Op.stringOp .add B4 ⟨#[40]⟩).run Tryz.prog w = .ok (.string B5) w := fun w => by
        (try rw [hB5]); (try rw [hB4]); exact add_str (([102, 110, 32] ++ nm)) ([40]) (by (try simp only [List.length_append, List.length_cons, List.length_nil] at hlen3 ⊢); omega) w
      have qB8 : ∀ w : World, (Op.stringOp .add B5 A2).run Tryz.prog w = .ok (.string B8) w := fun w => by
        (try rw [hB8]); (try rw [hB5]); (try rw [hA2]); exact add_str (([102, 110, 32] ++ nm ++ [40])) (JP) (by (try simp only [List.length_append, List.length_cons, List.length_nil] at hlen3 ⊢); omega) w
      have qB9 : ∀ w : World, (Op.stringOp .add B8 ⟨#[41]⟩).run Tryz.prog w = .ok (.string B9) w := fun w => by
        (try rw [hB9]); (try rw [hB8]); exact add_str (([102, 110, 32] ++ nm ++ [40] ++ JP)) ([41]) (by (try simp only [List.length_append, List.length_cons, List.length_nil] at hlen3 ⊢); omega) w
      have HB9 := Lib.hid hB9
      have HA3 := Lib.hid hA3
      clear hNM hA2 hA3 hB4 hB5 hB8 hB9
      go_upto_region 7 with fail
      go_cut [6] from 33 to 42 (fun s6 wx => s6 = .string B9 ∧ Hid (Below w.heap.size w wx))
      case first =>
        have HS : Below wr.heap.size wr wr.drew := (Below.refl _ _).drew
        have hbw : b < wr.heap.size := Nat.lt_of_lt_of_le hb hB2.size
        refine wp_region_held_drew (S := fun W => Below wr.heap.size wr W ∧ W.cell? ⟨b, o, none⟩ = some (.string NM)) (by kernel_rfl) ?_ (fun hHeld => ?_)
        · exact ⟨HS, (HS.cell (p := ⟨b, o, none⟩) hbw).trans y0⟩
        refine wpAnyH_take (i := 0) (oi := ⟨some 33, .move (.tmp 0), 129, "lines.go:110", #[], none⟩) (v := ?_) rfl (by kernel_rfl) (by kernel_rfl) (by kernel_rfl) (fun _ _ _ h => h) (Or.inl ⟨by rfl, ?_⟩) (by assumption) ?_
        rotate_left
        · (intro w hSw; (try dsimp only at hSw); go_simp; try with_reducible rfl)
        try simp only [Act.put, List.setIfInBounds_toArray, List.set_cons_zero, List.set_cons_succ]
        refine wpAnyH_take (i := 1) (oi := ⟨some 34, .nilCheck (.tmp 33), 0, "lines.go:110", #[⟨0, .data⟩], none⟩) (v := ?_) rfl (by kernel_rfl) (by kernel_rfl) (by kernel_rfl) (fun _ _ _ h => h) (Or.inl ⟨by rfl, ?_⟩) (by assumption) ?_
        rotate_left
        · (intro w hSw; (try dsimp only at hSw); go_simp; try with_reducible rfl)
        try simp only [Act.put, List.setIfInBounds_toArray, List.set_cons_zero, List.set_cons_succ]
        refine wpAnyH_take (i := 2) (oi := ⟨some 35, .fieldAddr 49 (.tmp 34) 0, 0, "lines.go:110", #[⟨1, .data⟩], none⟩) (v := ?_) rfl (by kernel_rfl) (by kernel_rfl) (by kernel_rfl) (fun _ _ _ h => h) (Or.inl ⟨by rfl, ?_⟩) (by assumption) ?_
        rotate_left
        · (intro w hSw; (try dsimp only at hSw); go_simp; try with_reducible rfl)
        try simp only [Act.put, List.setIfInBounds_toArray, List.set_cons_zero, List.set_cons_succ]
        refine wpAnyH_take (i := 3) (oi := ⟨some 36, .load 9 (.tmp 35), 9, "lines.go:110", #[⟨2, .data⟩], none⟩) (v := ?_) rfl (by kernel_rfl) (by kernel_rfl) (by kernel_rfl) (fun _ _ _ h => h) (Or.inl ⟨by rfl, ?_⟩) (by assumption) ?_
        rotate_left
        · (intro w hSw; (try dsimp only at hSw); go_simp; try with_reducible rfl)
        try simp only [Act.put, List.setIfInBounds_toArray, List.set_cons_zero, List.set_cons_succ]
        refine wpAnyH_take (i := 4) (oi := ⟨some 37, .binOp .add 9 (.const (.string ⟨#[102, 110, 32]⟩)) (.tmp 36) 9, 9, "lines.go:110", #[⟨3, .data⟩], none⟩) (v := .string B4) rfl (by kernel_rfl) (by kernel_rfl) (by kernel_rfl) (fun _ _ _ h => h) (Or.inl ⟨by rfl, ?_⟩) (by assumption) ?_
        · (intro w hSw; (try dsimp only at hSw); go_simp)
        try simp only [Act.put, List.setIfInBounds_toArray, List.set_cons_zero, List.set_cons_succ]
        refine wpAnyH_take (i := 5) (oi := ⟨some 38, .binOp .add 9 (.tmp 37) (.const (.string ⟨#[40]⟩)) 9, 9, "lines.go:110", #[⟨4, .data⟩], none⟩) (v := .string B5) rfl (by kernel_rfl) (by kernel_rfl) (by kernel_rfl) (fun _ _ _ h => h) (Or.inl ⟨by rfl, ?_⟩) (by assumption) ?_
        · (intro w hSw; (try dsimp only at hSw); go_simp)
        try simp only [Act.put, List.setIfInBounds_toArray, List.set_cons_zero, List.set_cons_succ]
        refine wpAnyH_take (i := 6) (oi := ⟨some 39, .move (.tmp 3), 46, "lines.go:110", #[], none⟩) (v := ?_) rfl (by kernel_rfl) (by kernel_rfl) (by kernel_rfl) (fun _ _ _ h => h) (Or.inl ⟨by rfl, ?_⟩) (by assumption) ?_
        rotate_left
        · (intro w hSw; (try dsimp only at hSw); go_simp; try with_reducible rfl)
        try simp only [Act.put, List.setIfInBounds_toArray, List.set_cons_zero, List.set_cons_succ]
        refine wpAnyH_ready (rs := [7]) (by kernel_rfl) (by simp) ?_
        refine AllReadyH.cons (o := ⟨some 40, .call { callee := .value (.func 138), args := #[.tmp 39, .const (.string ⟨#[44, 32]⟩)], argTypes := #[46, 9] }, 9, "lines.go:110", #[⟨6, .data⟩], none⟩) rfl (fun K hK => ?_) AllReadyH.nil
        go_simp
        refine HJ1.out.mono ?_
        rintro z wa ⟨rfl, hB'⟩
        replace HS := HS.trans (hB'.mono HS.size)
        clear hB'
        refine hK.out _ _ ?_ (fun hHeld => ?_)
        · exact ⟨HS, (HS.cell (p := ⟨b, o, none⟩) hbw).trans y0⟩
        clear hK K
        try simp only [Act.put, List.setIfInBounds_toArray, List.set_cons_zero, List.set_cons_succ]
        refine wpAnyH_take (i := 8) (oi := ⟨some 41, .binOp .add 9 (.tmp 38) (.tmp 40) 9, 9, "lines.go:110", #[⟨5, .data⟩, ⟨7, .data⟩], none⟩) (v := .string B8) rfl (by kernel_rfl) (by kernel_rfl) (by kernel_rfl) (fun _ _ _ h => h) (Or.inl ⟨by rfl, ?_⟩) (by assumption) ?_
        · (intro w hSw; (try dsimp only at hSw); go_simp)
        try simp only [Act.put, List.setIfInBounds_toArray, List.set_cons_zero, List.set_cons_succ]
        refine wpAnyH_take (i := 9) (oi := ⟨some 42, .binOp .add 9 (.tmp 41) (.const (.string ⟨#[41]⟩)) 9, 9, "lines.go:110", #[⟨8, .data⟩], none⟩) (v := .string B9) rfl (by kernel_rfl) (by kernel_rfl) (by kernel_rfl) (fun _ _ _ h => h) (Or.inl ⟨by rfl, ?_⟩) (by assumption) ?_
        · (intro w hSw; (try dsimp only at hSw); go_simp)
        try simp only [Act.put, List.setIfInBounds_toArray, List.set_cons_zero, List.set_cons_succ]
        refine wpAnyH_take (i := 10) (oi := ⟨some 6, .assign (.tmp 42), 9, "lines.go:110", #[⟨9, .data⟩, ⟨7, .chain⟩, ⟨0, .phase⟩, ⟨1, .phase⟩, ⟨2, .phase⟩, ⟨3, .phase⟩, ⟨4, .phase⟩, ⟨5, .phase⟩, ⟨6, .phase⟩, ⟨7, .phase⟩, ⟨8, .phase⟩, ⟨9, .phase⟩], none⟩) (v := ?_) rfl (by kernel_rfl) (by kernel_rfl) (by kernel_rfl) (fun _ _ _ h => h) (Or.inl ⟨by rfl, ?_⟩) (by assumption) ?_
        rotate_left
        · (intro w hSw; (try dsimp only at hSw); go_simp; try with_reducible rfl)
        try simp only [Act.put, List.setIfInBounds_toArray, List.set_cons_zero, List.set_cons_succ]
        refine wpAnyH_done (by kernel_rfl) ?_ _
        go_wp2_with fail
        go_meet
        exact ⟨rfl, Lib.hid (hB2.trans (HS.mono hB2.size))⟩
      case rest =>
        obtain ⟨rfl, HB3⟩ := hcut
        have y3 := (HB3.out.cell (p := ⟨b, o + 3, none⟩) hb).trans x3
        by_cases h0 : rs.length = 0
        · rw [h0] at y3
          have hB9 := HB9.out
          obtain ⟨B58, hB58⟩ : ∃ B, B = str (([102, 110, 32] ++ nm ++ [40] ++ JP ++ [41]) ++ [32, 123]) := ⟨_, rfl⟩
          have qB58 : ∀ w : World, (Op.stringOp .add B9 ⟨#[32, 123]⟩).run Tryz.prog w = .ok (.string B58) w := fun w => by
            (try rw [hB58]); (try rw [hB9]); exact add_str (([102, 110, 32] ++ nm ++ [40] ++ JP ++ [41])) ([32, 123]) (by (try simp only [List.length_append, List.length_cons, List.length_nil] at hlen3 ⊢); omega) w
          have HF := Lib.hid (show TT = B58 by rw [HT.out, if_pos h0, List.append_nil, hB58])
          clear hB58 hB9
          go_wp2_with fail
          go_ret
          exact ⟨ret_strE HF.out.symm, HB3.out⟩
        · have hpos : (0 : Int) < (rs.length : Int) := by omega
          have hlen4 := hlen.2 h0
          have hB9 := HB9.out
          have hA3 := HA3.out
          have HR1 := Lib.hid (HRt.out h0 wc HB3.out)
          obtain ⟨B55, hB55⟩ : ∃ B, B = str ([32, 45, 62, 32] ++ JR) := ⟨_, rfl⟩
          obtain ⟨B56, hB56⟩ : ∃ B, B = str (([102, 110, 32] ++ nm ++ [40] ++ JP ++ [41]) ++ ([32, 45, 62, 32] ++ JR)) := ⟨_, rfl⟩
          obtain ⟨B58, hB58⟩ : ∃ B, B = str ((([102, 110, 32] ++ nm ++ [40] ++ JP ++ [41]) ++ ([32, 45, 62, 32] ++ JR)) ++ [32, 123]) := ⟨_, rfl⟩
          have qB55 : ∀ w : World, (Op.stringOp .add ⟨#[32, 45, 62, 32]⟩ A3).run Tryz.prog w = .ok (.string B55) w := fun w => by
            (try rw [hB55]); (try rw [hA3]); exact add_str ([32, 45, 62, 32]) (JR) (by (try simp only [List.length_cons, List.length_nil] at hlen4 ⊢); omega) w
          have qB56 : ∀ w : World, (Op.stringOp .add B9 B55).run Tryz.prog w = .ok (.string B56) w := fun w => by
            (try rw [hB56]); (try rw [hB9]); (try rw [hB55]); exact add_str (([102, 110, 32] ++ nm ++ [40] ++ JP ++ [41])) (([32, 45, 62, 32] ++ JR)) (by (try simp only [List.length_append, List.length_cons, List.length_nil] at hlen4 ⊢); omega) w
          have qB58 : ∀ w : World, (Op.stringOp .add B56 ⟨#[32, 123]⟩).run Tryz.prog w = .ok (.string B58) w := fun w => by
            (try rw [hB58]); (try rw [hB56]); exact add_str ((([102, 110, 32] ++ nm ++ [40] ++ JP ++ [41]) ++ ([32, 45, 62, 32] ++ JR))) ([32, 123]) (by (try simp only [List.length_append, List.length_cons, List.length_nil] at hlen4 ⊢); omega) w
          have HF := Lib.hid (show TT = B58 by rw [HT.out, if_neg h0, hB58])
          clear hB58 hB56 hB55 hB9 hA3
          go_wp2_with fail
          refine HR1.out.mono ?_
          rintro z w2 ⟨rfl, hB'⟩
          have HE := Lib.hid (HB3.out.trans (hB'.mono HB3.out.size))
          clear hB'
          go_wp2_with fail
          go_ret
          exact ⟨ret_strE HF.out.symm, HE.out⟩
end Go.Proofs.YtlhbledakddbbaaGreatDoor
/- What a statement has besides is nothing: the program's isZeroStmt. -/
namespace Go.Proofs.YtlhbledakddbbaaGreatDoor
open Go.RowKit

set_option maxRecDepth 100000 in
set_option maxHeartbeats 6400000 in
theorem isZeroSt_any (x : St) (hk : x.kind = 0) (s : StP) (N : Nat) (w : World) (hN : N ≤ w.heap.size) (hx : x.Ok w N s) :
    Calls Tryz.prog 137 #[x.val s] w fun e w' => e = .returned (.bool x.isZero) ∧ Below w.heap.size w w' := by
  obtain ⟨A1, hA1⟩ : ∃ A1, x.cells s = A1 := ⟨_, rfl⟩
  obtain ⟨W1, hW1⟩ : ∃ W1, w.alloc (Obj.cells A1 54) = W1 := ⟨_, rfl⟩
  have hB1 : Below w.heap.size w W1 := by rw [← hW1]; exact (Below.refl _ w).alloc (Nat.le_refl _) _
  have hX : ∀ j z, (x.cells s)[j]? = some z → W1.cell? ⟨w.heap.size, j, none⟩ = some z := fun j z hz => by rw [← hW1]; exact cell_block (heap_alloc_new w _) (by rw [← hA1]; exact hz)
  have HB := Lib.hid hB1
  have ok := hx.later (hB1.mono hN) (Nat.le_refl N)
  unfold St.val
  rw [hA1]
  obtain ⟨kd, nm, ns, e, a, g, lo, hi, bd, el⟩ := x
  obtain rfl : kd = 0 := hk
  have HZe := Lib.hid (isZero_any e w.heap.size 3 N W1 (exAt_ofOk ok.2.1 (hX 3 _ rfl) (hX 4 _ rfl) (hX 5 _ rfl) (hX 6 _ rfl)))
  have HZa := Lib.hid (isZero_any a w.heap.size 7 N W1 (exAt_ofOk ok.2.2.1 (hX 7 _ rfl) (hX 8 _ rfl) (hX 9 _ rfl) (hX 10 _ rfl)))
  have c0 : W1.cell? ⟨w.heap.size, 0, none⟩ = some (.int .i64 0) := hX 0 _ rfl
  have c1 : W1.cell? ⟨w.heap.size, 1, none⟩ = some (.string (str nm)) := hX 1 _ rfl
  have c2 : W1.cell? ⟨w.heap.size, 2, none⟩ = some (.slice s.pn ns.length s.cn) := hX 2 _ rfl
  have c11 : W1.cell? ⟨w.heap.size, 11, none⟩ = some (.slice s.pg g.len s.cg) := hX 11 _ rfl
  have c12 : W1.cell? ⟨w.heap.size, 12, none⟩ = some (.int .u64 (lo : Int)) := hX 12 _ rfl
  have c13 : W1.cell? ⟨w.heap.size, 13, none⟩ = some (.int .u64 (hi : Int)) := hX 13 _ rfl
  have c14 : W1.cell? ⟨w.heap.size, 14, none⟩ = some (.slice s.pb bd.len s.cb) := hX 14 _ rfl
  have c15 : W1.cell? ⟨w.heap.size, 15, none⟩ = some (.slice s.pl el.len s.cl) := hX 15 _ rfl
  have hm2 := ok.1.2.1
  have hm11 := ok.2.2.2.1.1
  have hm14 := ok.2.2.2.2.1.1
  have hm15 := ok.2.2.2.2.2.1.1
  unfold St.isZero
  simp only []
  have es : (str nm).toList.isEmpty = nm.isEmpty := by rw [Lib.toList_data, str_data]
  clear ok hX hx hB1 hN hA1
  generalize ns.length = n2 at *
  generalize g.len = n11 at *
  generalize bd.len = n14 at *
  generalize el.len = n15 at *
  generalize e.none = ze at *
  generalize a.none = za at *
  go_enter Tryz.func137, Tryz.ntmps137
  cases hn : nm.isEmpty with
  | false =>
    rw [hn] at es
    have e0 : ¬ (str nm).toList = [] := by intro h; rw [h] at es; cases es
    go_wp2_with fail
    go_ret
    exact ⟨by simp, HB.out⟩
  | true =>
    rw [hn] at es
    have e0 : (str nm).toList = [] := by simpa using es
    by_cases hn2 : n2 = 0
    · subst hn2
      cases ze with
      | false =>
        go_wp2_with fail
        refine (HZe.out).mono ?_
        rintro z w2 ⟨rfl, rfl⟩
        go_wp2_with fail
        go_ret
        exact ⟨by simp, HB.out⟩
      | true =>
        cases za with
        | false =>
          go_wp2_with fail
          refine (HZe.out).mono ?_
          rintro z w2 ⟨rfl, rfl⟩
          go_wp2_with fail
          refine (HZa.out).mono ?_
          rintro z w2 ⟨rfl, rfl⟩
          go_wp2_with fail
          go_ret
          exact ⟨by simp, HB.out⟩
        | true =>
          by_cases hn11 : n11 = 0
          · subst hn11
            by_cases hlo : lo = 0
            · subst hlo
              by_cases hhi : hi = 0
              · subst hhi
                by_cases hn14 : n14 = 0
                · subst hn14
                  by_cases hn15 : n15 = 0
                  · subst hn15
                    go_wp2_with fail
                    refine (HZe.out).mono ?_
                    rintro z w2 ⟨rfl, rfl⟩
                    go_wp2_with fail
                    refine (HZa.out).mono ?_
                    rintro z w2 ⟨rfl, rfl⟩
                    go_wp2_with fail
                    go_ret
                    exact ⟨by simp, HB.out⟩
                  · have fn15 : ((n15 : Int) == 0) = false := by simp; omega
                    go_wp2_with fail
                    refine (HZe.out).mono ?_
                    rintro z w2 ⟨rfl, rfl⟩
                    go_wp2_with fail
                    refine (HZa.out).mono ?_
                    rintro z w2 ⟨rfl, rfl⟩
                    go_wp2_with fail
                    go_ret
                    exact ⟨by simp, HB.out⟩
                · have fn14 : ((n14 : Int) == 0) = false := by simp; omega
                  go_wp2_with fail
                  refine (HZe.out).mono ?_
                  rintro z w2 ⟨rfl, rfl⟩
                  go_wp2_with fail
                  refine (HZa.out).mono ?_
                  rintro z w2 ⟨rfl, rfl⟩
                  go_wp2_with fail
                  go_ret
                  exact ⟨by simp, HB.out⟩
              · have fhi : ((hi : Int) == 0) = false := by simp; omega
                go_wp2_with fail
                refine (HZe.out).mono ?_
                rintro z w2 ⟨rfl, rfl⟩
                go_wp2_with fail
                refine (HZa.out).mono ?_
                rintro z w2 ⟨rfl, rfl⟩
                go_wp2_with fail
                go_ret
                exact ⟨by simp, HB.out⟩
            · have flo : ((lo : Int) == 0) = false := by simp; omega
              go_wp2_with fail
              refine (HZe.out).mono ?_
              rintro z w2 ⟨rfl, rfl⟩
              go_wp2_with fail
              refine (HZa.out).mono ?_
              rintro z w2 ⟨rfl, rfl⟩
              go_wp2_with fail
              go_ret
              exact ⟨by simp, HB.out⟩
          · have fn11 : ((n11 : Int) == 0) = false := by simp; omega
            go_wp2_with fail
            refine (HZe.out).mono ?_
            rintro z w2 ⟨rfl, rfl⟩
            go_wp2_with fail
            refine (HZa.out).mono ?_
            rintro z w2 ⟨rfl, rfl⟩
            go_wp2_with fail
            go_ret
            exact ⟨by simp, HB.out⟩
    · have fn2 : ((n2 : Int) == 0) = false := by simp; omega
      go_wp2_with fail
      go_ret
      exact ⟨by simp [hn2], HB.out⟩
end Go.Proofs.YtlhbledakddbbaaGreatDoor
