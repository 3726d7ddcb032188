/- Y3, Y4 as one. -/
import Derived.Test.YtcadeeldogknmaaY2
import Derived.Test.YtcadeeldogknmaaY1
import Derived.Test.YtcadeeldogknmaaR5
import Derived.Test.YtcadeeldogknmaaK2
import Derived.Test.YtcadeeldogknmaaL2
import Derived.Test.YtcadeeldogknmaaF2
/- What is rewritten of a beginning, plainly; the law on what breaks off: its walk. -/
namespace Go.Proofs.Ytcadeeldogknmaa
open Go.RowKit

mutual
theorem Lf.meas_small : ∀ (l : Lf) (deep : Nat) (left : Int), deep + l.depth ≤ 513 → (l.weight : Int) ≤ left → ∃ x, l.meas deep left = .ok x ∧ left - l.weight ≤ x
  | .nil, _, left, _, _ => ⟨left, by simp [Lf.meas], by simp [Lf.weight]⟩
  | .node _ is _ s r, deep, left, hd, hl => by
    simp only [Lf.depth] at hd
    simp only [Lf.weight] at hl ⊢
    obtain ⟨x, hx, hx2⟩ := Ls.meas_small s (deep + 1) (left - (1 + (is.length : Int))) (by omega) (by omega)
    obtain ⟨y, hy, hy2⟩ := Lf.meas_small r deep x (by omega) (by omega)
    refine ⟨y, ?_, by omega⟩
    rw [Lf.meas, if_neg (by omega), if_neg (by omega), hx]
    exact hy
theorem Ls.meas_small : ∀ (l : Ls) (deep : Nat) (left : Int), deep + l.depth ≤ 513 → (l.weight : Int) ≤ left → ∃ x, l.meas deep left = .ok x ∧ left - l.weight ≤ x
  | .nil, _, left, _, _ => ⟨left, by simp [Ls.meas], by simp [Ls.weight]⟩
  | .sub l r, deep, left, hd, hl => by
    simp only [Ls.depth] at hd
    simp only [Ls.weight] at hl ⊢
    obtain ⟨x, hx, hx2⟩ := Lf.meas_small l deep left (by omega) (by omega)
    obtain ⟨y, hy, hy2⟩ := Ls.meas_small r deep x (by omega) (by omega)
    refine ⟨y, ?_, by omega⟩
    rw [Ls.meas, hx]
    exact hy
end
theorem check_small {l : Lf} (hd : l.depth ≤ 512) (hw : l.weight ≤ 1000000) (hs : l.shaped = true) : l.check = 0 := by
  obtain ⟨x, hx, _⟩ := Lf.meas_small l 1 1000000 (by omega) (by omega)
  simp [Lf.check, hx, errOf, hs]
mutual
theorem Tf.count_le : ∀ l : Tf, l.len + l.under ≤ l.weight
  | .nil => Nat.le_refl _
  | .node _ ls _ s r => by
    have := Ts.count_le s
    have := Tf.count_le r
    simp only [Tf.len, Tf.under, Tf.weight]; omega
theorem Ts.count_le : ∀ l : Ts, l.nodes ≤ l.weight
  | .nil => Nat.le_refl _
  | .sub l r => by
    have := Tf.count_le l
    have := Ts.count_le r
    simp only [Ts.nodes, Ts.weight]; omega
end
def smallB (l : Lf) : Bool := decide (l.depth ≤ 60) && decide (l.weight ≤ 3000)
def smallT (t : Tf) : Bool := decide (t.deep ≤ 60) && decide (t.weight ≤ 3000)
theorem smallB_cat {a b : Lf} (h : smallB (a.cat b) = true) : smallB a = true := by
  have h1 : ∀ a b : Lf, a.depth ≤ (a.cat b).depth ∧ a.weight ≤ (a.cat b).weight := fun a b => by
    induction a using Lf.rec (motive_2 := fun _ => True) with
    | nil => exact ⟨Nat.zero_le _, Nat.zero_le _⟩
    | node k is t s r _ ih => simp only [Lf.cat, Lf.depth, Lf.weight]; omega
    | _ => trivial
  have := h1 a b
  simp [smallB] at h ⊢
  omega
theorem shaped_cat : ∀ a b : Lf, (a.cat b).shaped = (a.shaped && b.shaped)
  | .nil, b => rfl
  | .node k is t s r, b => by simp only [Lf.cat, Lf.shaped, shaped_cat r b, Bool.and_assoc]
theorem cnt_cat : ∀ (y z : Lf) (d : Nat) (n : Int), (y.cat z).cnt d n = match y.cnt d n with | .ok x => z.cnt d x | .error e => .error e
  | .nil, z, d, n => rfl
  | .node k is t s r, z, d, n => by
    simp only [Lf.cat, Lf.cnt]
    split
    · exact cnt_cat r z d n
    · split
      · rfl
      · cases s.cnt (d + 1) (n + (1 + (is.length : Int))) with
        | ok x => exact cnt_cat r z d x
        | error e => rfl
mutual
theorem Lf.cnt_le : ∀ (l : Lf) (d : Nat) (n x : Int), n ≤ 1000000 → l.cnt d n = .ok x → x ≤ 1000000
  | .nil, d, n, x, hn, h => by simp [Lf.cnt] at h; omega
  | .node k is t s r, d, n, x, hn, h => by
    simp only [Lf.cnt] at h
    split at h
    · exact Lf.cnt_le r d n x hn h
    · split at h
      · cases h
      · cases hs : s.cnt (d + 1) (n + (1 + (is.length : Int))) with
        | ok y => rw [hs] at h; exact Lf.cnt_le r d y x (Ls.cnt_le s (d + 1) _ y (by omega) hs) h
        | error e => rw [hs] at h; cases h
theorem Ls.cnt_le : ∀ (l : Ls) (d : Nat) (n x : Int), n ≤ 1000000 → l.cnt d n = .ok x → x ≤ 1000000
  | .nil, d, n, x, hn, h => by simp [Ls.cnt] at h; omega
  | .sub l r, d, n, x, hn, h => by
    simp only [Ls.cnt] at h
    cases hs : l.cnt d n with
    | ok y => rw [hs] at h; exact Ls.cnt_le r d y x (Lf.cnt_le l d n y hn hs) h
    | error e => rw [hs] at h; cases h
end
theorem cnt0_pre {y z : Lf} (h : ¬ 1000000 < (y.cat z).cnt0) : ¬ 1000000 < y.cnt0 := by
  unfold Lf.cnt0 at h ⊢
  rw [cnt_cat] at h
  cases hy : y.cnt 1 0 with
  | ok Y =>
    have := Lf.cnt_le y 1 0 Y (by omega) hy
    simp only; omega
  | error e => rw [hy] at h; simp at h
theorem rwP_bad {st : Int} {t : Tf} {l : Lf} {br : Bool} (h : ¬ (rwP st t l br).1 = 0) : (rwP st t l br).2 = .nil := by
  unfold rwP at h ⊢
  split
  · split
    · split
      · rfl
      · split
        · rfl
        · split
          · rfl
          · exfalso; apply h; rw [if_pos ‹_›, if_pos ‹_›]; simp_all
    · rfl
  · rfl
theorem rwP_ok {st : Int} {t : Tf} {l : Lf} {br : Bool} {x : Lf} {m : Nat} (h1 : l.check = 0) (h2 : t.okT = true) (h3 : l.rw st t.rc br 0 = some (x, m)) (h4 : ¬ 1000000 < m) (h5 : ¬ 1000000 < x.cnt0) : rwP st t l br = (0, x) := by
  unfold rwP
  rw [if_pos h1, if_pos h2, h3]
  simp only
  rw [if_neg h4, if_neg h5]
theorem rwP_inv {st : Int} {t : Tf} {l : Lf} {br : Bool} (h : (rwP st t l br).1 = 0) : l.check = 0 ∧ t.okT = true ∧ ∃ x m, l.rw st t.rc br 0 = some (x, m) ∧ ¬ 1000000 < m ∧ ¬ 1000000 < x.cnt0 ∧ rwP st t l br = (0, x) := by
  by_cases h1 : l.check = 0
  · by_cases h2 : t.okT = true
    · cases h3 : l.rw st t.rc br 0 with
      | none => unfold rwP at h; rw [if_pos h1, if_pos h2, h3] at h; cases h
      | some r =>
        obtain ⟨x, m⟩ := r
        by_cases h4 : 1000000 < m
        · unfold rwP at h; rw [if_pos h1, if_pos h2, h3] at h; simp only at h; rw [if_pos h4] at h; cases h
        · by_cases h5 : 1000000 < x.cnt0
          · unfold rwP at h; rw [if_pos h1, if_pos h2, h3] at h; simp only at h; rw [if_neg h4, if_pos h5] at h; cases h
          · exact ⟨h1, h2, x, m, rfl, h4, h5, rwP_ok h1 h2 h3 h4 h5⟩
    · unfold rwP at h; rw [if_pos h1, if_neg h2] at h; cases h
  · unfold rwP at h; rw [if_neg h1] at h; exact absurd h h1
theorem broken_plain {st : Int} {t : Tf} {a b : Lf} (hs : smallB (a.cat b) = true) (ht : smallT t = true) (h : (rwP st t (a.cat b) false).1 = 0) : ∃ y z, rwP st t (a.cat b) false = (0, y.cat z) ∧ rwP st t a true = (0, y) := by
  obtain ⟨h1, h2, x, m, h3, h4, h5, h6⟩ := rwP_inv h
  have hf := (Tf.fine_of t h2 (by simp [smallT] at ht; omega)).2
  obtain ⟨y, z, m1, k1, rfl, k2⟩ := rw_pre st a b t.rc 0 x m hf h3
  refine ⟨y, z, h6, rwP_ok ?_ h2 k1 (by omega) (cnt0_pre h5)⟩
  have hsa := smallB_cat hs
  have hsh := check_shaped h1
  rw [shaped_cat, Bool.and_eq_true] at hsh
  exact check_small (by simp [smallB] at hsa; omega) (by simp [smallB] at hsa; omega) hsh.1
theorem Lf.split : ∀ (l : Lf) (k : Nat), k ≤ l.len → ∃ a b : Lf, l = a.cat b ∧ a.len = k
  | l, 0, _ => ⟨.nil, l, rfl, rfl⟩
  | .nil, k + 1, h => by simp [Lf.len] at h
  | .node x is t s r, k + 1, h => by
    obtain ⟨a, b, rfl, rfl⟩ := Lf.split r k (by simp only [Lf.len] at h; omega)
    exact ⟨.node x is t s a, b, rfl, rfl⟩
theorem Lf.At.left {w : World} {N : Nat} : ∀ (a b : Lf) (bl o : Nat), (a.cat b).At w N bl o → a.At w N bl o
  | .nil, _, _, _, _ => trivial
  | .node _k _is _t _s r, b, bl, o, h => ⟨h.1, h.2.1, h.2.2.1, h.2.2.2.1, Lf.At.left r b bl (o + 4) h.2.2.2.2⟩
theorem Lf.In.left {w : World} {N : Nat} {a b : Lf} {p : Option Addr} (h : (a.cat b).In w N p) : a.In w N p := by
  have hl := Lf.cat_len a b
  obtain ⟨h1, h2 | ⟨bl, o, e, hb, ha⟩⟩ := h
  · exact ⟨by omega, .inl (by omega)⟩
  · exact ⟨by omega, .inr ⟨bl, o, e, hb, Lf.At.left a b bl o ha⟩⟩
theorem Lf.wt_left : ∀ a b : Lf, a.wt ≤ (a.cat b).wt := fun a b => by rw [Lf.cat_wt]; omega
theorem RwOut.nil {E : Int} {w w' : World} {e : Ending} (h : RwOut (E, .nil) w e w') : ∃ qx cx, e = .returned (.tuple #[.slice qx 0 cx, .int .i64 E]) ∧ Below w.heap.size w w' := by
  obtain ⟨qx, cx, h1, _, _, h4⟩ := h
  exact ⟨qx, cx, h1, h4⟩
theorem RwOut.two {y z : Lf} {w w' : World} {e : Ending} (h : RwOut (0, y.cat z) w e w') : ∃ qx cx n, e = .returned (.tuple #[.slice qx n cx, .int .i64 0]) ∧ y.In w' w'.heap.size qx ∧ y.len ≤ n ∧ n ≤ cx ∧ Below w.heap.size w w' := by
  obtain ⟨qx, cx, h1, h2, h3, h4⟩ := h
  exact ⟨qx, cx, _, h1, h2.left, by rw [Lf.cat_len]; omega, h3, h4⟩
theorem RwOut.one {y : Lf} {w w' : World} {e : Ending} (h : RwOut (0, y) w e w') : ∃ qx cx, e = .returned (.tuple #[.slice qx y.len cx, .int .i64 0]) ∧ y.In w' w'.heap.size qx ∧ y.len ≤ cx ∧ Below w.heap.size w w' := h
mutual
theorem Tf.Cap.grow {v v' : World} {N : Nat} (h : ∀ b o, b < N → v'.cell? ⟨b, o, none⟩ = v.cell? ⟨b, o, none⟩) : ∀ (t : Tf) (b o : Nat), b < N → t.At v N b o → t.Cap v b o → t.Cap v' b o
  | .nil, _, _, _, _, _ => trivial
  | .node k ls t s r, b, o, hb, ha, hc => by
    obtain ⟨_, _, _, ⟨p, c, h3, s3⟩, hr⟩ := ha
    refine ⟨fun p' c' e => ?_, Tf.Cap.grow h r b (o + 4) hb hr hc.2⟩
    rw [h _ _ hb] at e
    cases (h3.symm.trans e)
    obtain ⟨g1, g2⟩ := hc.1 p c h3
    refine ⟨g1, fun b' o' e' => ?_⟩
    rcases s3.2 with h0 | ⟨b2, o2, rfl, hb2, ha2⟩
    · cases s with
      | nil => trivial
      | sub l r => simp [Ts.len] at h0
    · cases e'
      exact Ts.Cap.grow h s b' o' hb2 ha2 (g2 b' o' rfl)
theorem Ts.Cap.grow {v v' : World} {N : Nat} (h : ∀ b o, b < N → v'.cell? ⟨b, o, none⟩ = v.cell? ⟨b, o, none⟩) : ∀ (t : Ts) (b o : Nat), b < N → t.At v N b o → t.Cap v b o → t.Cap v' b o
  | .nil, _, _, _, _, _ => trivial
  | .sub l r, b, o, hb, ha, hc => by
    obtain ⟨⟨p, c, h3, s3⟩, hr⟩ := ha
    refine ⟨fun p' c' e => ?_, Ts.Cap.grow h r b (o + 1) hb hr hc.2⟩
    rw [h _ _ hb] at e
    cases (h3.symm.trans e)
    have g2 := hc.1 p c h3
    intro b' o' e'
    rcases s3.2 with h0 | ⟨b2, o2, rfl, hb2, ha2⟩
    · cases l with
      | nil => trivial
      | node _ _ _ _ _ => simp [Tf.len] at h0
    · cases e'
      exact Tf.Cap.grow h l b' o' hb2 ha2 (g2 b' o' rfl)
end
theorem cap_later {w w1 : World} {t : Tf} {p : Option Addr} (hb : Below w.heap.size w w1) (hT : t.In w w.heap.size p) (hc : ∀ b o, p = some ⟨b, o, none⟩ → t.Cap w b o) : ∀ b o, p = some ⟨b, o, none⟩ → t.Cap (cutN w1.heap.size w1) b o := fun b o e => by
  rcases hT.2 with h0 | ⟨b2, o2, rfl, hb2, ha2⟩
  · cases t with
    | nil => trivial
    | node _ _ _ _ _ => simp [Tf.len] at h0
  · cases e
    refine Tf.Cap.grow (N := w.heap.size) (v := w) (fun b o hl => ?_) t b o hb2 ha2 (hc b o rfl)
    have hs := hb.size
    simp only [cutN, cell_cut]
    rw [if_pos (by simp; omega)]
    exact hb.cell hl
/-- the law's arguments, as they lie -/
structure GivenR (w : World) (t : Tf) (l : Lf) (pt pl : Option Addr) (cl : Nat) : Prop where
  ht : t.In w w.heap.size pt
  hc : ∀ b o, pt = some ⟨b, o, none⟩ → t.Cap w b o
  wt : t.weight ≤ 1048576
  sz : t.size ≤ 1073741824
  hl : l.In w w.heap.size pl
  wl : l.wt ≤ 1048576
  hcl : l.len ≤ cl
  nl : pl = none → cl = 0
theorem GivenR.few {w : World} {t : Tf} {l : Lf} {pt pl : Option Addr} {cl : Nat} (G : GivenR w t l pt pl cl) :
    Calls Try.prog 5 #[.slice pl l.len cl] w fun e w' => e = .returned (.bool (smallB l)) ∧ Below w.heap.size w w' := few_any l pl cl _ w G.hl (Nat.le_refl _) (by have := Lf.weight_wt l; have := G.wl; omega)
theorem GivenR.small {w : World} {t : Tf} {l : Lf} {pt pl : Option Addr} {cl : Nat} (G : GivenR w t l pt pl cl) (ct : Nat) (w1 : World) (hb : Below w.heap.size w w1) :
    Calls Try.prog 6 #[.slice pt t.len ct] w1 fun e w' => e = .returned (.bool (smallT t)) ∧ Below w1.heap.size w1 w' := small_any t pt ct _ w1 (Tf.In_later G.ht hb (Nat.le_refl _)) hb.size (by have := G.wt; omega)
theorem GivenR.rewrite {w : World} {t : Tf} {l : Lf} {pt pl : Option Addr} {cl : Nat} (G : GivenR w t l pt pl cl) (hs : smallT t = true) (ct : Nat) (br : Bool) (st : Int) {a : Lf} {q : Option Addr} {ca : Nat} (w1 : World) (hb : Below w.heap.size w w1) (ha : a.In w1 w1.heap.size q) (hw : a.wt ≤ 1073741824) :
    Calls Try.prog 9 #[.slice pt t.len ct, .slice q a.len ca, .int .u64 st, .bool br] w1 (RwOut (rwP st t a br) w1) := by
  have hx := Tf.count_le t
  have : t.deep ≤ 60 ∧ t.weight ≤ 3000 := by simpa [smallT] using hs
  refine rewrite_any t a pt q ct ca br w1.heap.size st w1 ((Tf.In_later G.ht hb (Nat.le_refl _)).later (Below.refl _ _) hb.size) ha (Nat.le_refl _) (cap_later hb G.ht G.hc) (by omega) (by omega) G.wt G.sz hw

section
variable (t : Tf) (l : Lf) (pt pl : Option Addr) (ct cl : Nat) (st n : Int) (w : World)
set_option maxRecDepth 100000 in
set_option maxHeartbeats 6400000 in
theorem broken_few (G : GivenR w t l pt pl cl) (h1 : smallB l = false) :
    Calls Try.prog 4 #[.slice pt t.len ct, .slice pl l.len cl, .int .u64 st, .int .i64 n] w fun e w' => e = .returned (.bool true) ∧ Below w.heap.size w w' := by
  have HF := G.few
  rw [h1] at HF
  replace HF := Lib.hid HF
  clear G h1
  go_enter Try.func4, Try.ntmps4
  go_wp2_with fail
  refine HF.out.mono ?_
  rintro e w1 ⟨rfl, hB1⟩
  have HB := Lib.hid hB1
  clear hB1
  go_wp2_with fail
  refine (known_any _).mono ?_
  rintro e w9 ⟨rfl, hB9⟩
  replace HB := Lib.hid (HB.out.trans (hB9.mono HB.out.size))
  clear hB9
  go_wp2_with fail
  go_ret
  exact ⟨rfl, HB.out⟩
set_option maxRecDepth 100000 in
set_option maxHeartbeats 6400000 in
theorem broken_small (G : GivenR w t l pt pl cl) (h1 : smallB l = true) (h2 : smallT t = false) :
    Calls Try.prog 4 #[.slice pt t.len ct, .slice pl l.len cl, .int .u64 st, .int .i64 n] w fun e w' => e = .returned (.bool true) ∧ Below w.heap.size w w' := by
  have HF := G.few
  rw [h1] at HF
  replace HF := Lib.hid HF
  have HS := fun w1 hb => G.small ct w1 hb
  rw [h2] at HS
  replace HS := Lib.hid HS
  clear G h1 h2
  go_enter Try.func4, Try.ntmps4
  go_wp2_with fail
  refine HF.out.mono ?_
  rintro e w1 ⟨rfl, hB1⟩
  have HB := Lib.hid hB1
  clear hB1
  go_wp2_with fail
  refine (HS.out _ HB.out).mono ?_
  rintro e w2 ⟨rfl, hB2⟩
  replace HB := Lib.hid (HB.out.trans (hB2.mono HB.out.size))
  clear hB2
  go_wp2_with fail
  refine (known_any _).mono ?_
  rintro e w9 ⟨rfl, hB9⟩
  replace HB := Lib.hid (HB.out.trans (hB9.mono HB.out.size))
  clear hB9
  go_wp2_with fail
  go_ret
  exact ⟨rfl, HB.out⟩
set_option maxRecDepth 100000 in
set_option maxHeartbeats 6400000 in
theorem broken_low (G : GivenR w t l pt pl cl) (h1 : smallB l = true) (h2 : smallT t = true) (h3 : n < 0) :
    Calls Try.prog 4 #[.slice pt t.len ct, .slice pl l.len cl, .int .u64 st, .int .i64 n] w fun e w' => e = .returned (.bool true) ∧ Below w.heap.size w w' := by
  have HF := G.few
  rw [h1] at HF
  replace HF := Lib.hid HF
  have HS := fun w1 hb => G.small ct w1 hb
  rw [h2] at HS
  replace HS := Lib.hid HS
  clear G h1 h2
  go_enter Try.func4, Try.ntmps4
  go_wp2_with fail
  refine HF.out.mono ?_
  rintro e w1 ⟨rfl, hB1⟩
  have HB := Lib.hid hB1
  clear hB1
  go_wp2_with fail
  refine (HS.out _ HB.out).mono ?_
  rintro e w2 ⟨rfl, hB2⟩
  replace HB := Lib.hid (HB.out.trans (hB2.mono HB.out.size))
  clear hB2
  go_wp2_with fail
  refine (known_any _).mono ?_
  rintro e w9 ⟨rfl, hB9⟩
  replace HB := Lib.hid (HB.out.trans (hB9.mono HB.out.size))
  clear hB9
  go_wp2_with fail
  go_ret
  exact ⟨rfl, HB.out⟩
set_option maxRecDepth 100000 in
set_option maxHeartbeats 6400000 in
theorem broken_high (G : GivenR w t l pt pl cl) (h1 : smallB l = true) (h2 : smallT t = true) (h3 : ¬ n < 0) (h4 : (l.len : Int) < n) :
    Calls Try.prog 4 #[.slice pt t.len ct, .slice pl l.len cl, .int .u64 st, .int .i64 n] w fun e w' => e = .returned (.bool true) ∧ Below w.heap.size w w' := by
  have HF := G.few
  rw [h1] at HF
  replace HF := Lib.hid HF
  have HS := fun w1 hb => G.small ct w1 hb
  rw [h2] at HS
  replace HS := Lib.hid HS
  clear G h1 h2
  go_enter Try.func4, Try.ntmps4
  go_wp2_with fail
  refine HF.out.mono ?_
  rintro e w1 ⟨rfl, hB1⟩
  have HB := Lib.hid hB1
  clear hB1
  go_wp2_with fail
  refine (HS.out _ HB.out).mono ?_
  rintro e w2 ⟨rfl, hB2⟩
  replace HB := Lib.hid (HB.out.trans (hB2.mono HB.out.size))
  clear hB2
  go_wp2_with fail
  refine (known_any _).mono ?_
  rintro e w9 ⟨rfl, hB9⟩
  replace HB := Lib.hid (HB.out.trans (hB9.mono HB.out.size))
  clear hB9
  go_wp2_with fail
  go_ret
  exact ⟨rfl, HB.out⟩
end
end Go.Proofs.Ytcadeeldogknmaa
/- The law on what breaks off: its walk, the body. -/
namespace Go.Proofs.Ytcadeeldogknmaa
open Go.RowKit

section
variable (t : Tf) (a b : Lf) (pt pl : Option Addr) (ct cl : Nat) (st : Int) (w : World)
set_option maxRecDepth 100000 in
set_option maxHeartbeats 6400000 in
theorem broken_err (G : GivenR w t (a.cat b) pt pl cl) (h1 : smallB (a.cat b) = true) (h2 : smallT t = true) (h3 : ¬ (rwP st t (a.cat b) false).1 = 0) :
    Calls Try.prog 4 #[.slice pt t.len ct, .slice pl (a.cat b).len cl, .int .u64 st, .int .i64 (a.len : Int)] w fun e w' => e = .returned (.bool true) ∧ Below w.heap.size w w' := by
  have HF := G.few
  rw [h1] at HF
  replace HF := Lib.hid HF
  have HS := fun w1 hb => G.small ct w1 hb
  rw [h2] at HS
  replace HS := Lib.hid HS
  have HR := fun w1 (hb : Below w.heap.size w w1) => G.rewrite h2 ct false st (ca := cl) w1 hb (In_later G.hl hb (Nat.le_refl _) |>.later (Below.refl _ _) hb.size) (by have := G.wl; omega)
  have hbad := rwP_bad h3
  obtain ⟨E, hE⟩ : ∃ E, (rwP st t (a.cat b) false).1 = E := ⟨_, rfl⟩
  have hp : rwP st t (a.cat b) false = (E, .nil) := Prod.ext hE hbad
  rw [hp] at HR
  rw [hE] at h3
  replace HR := Lib.hid HR
  have hc' : (E != 0) = true := by simp [bne, h3]
  have hlen : a.len ≤ (a.cat b).len := by rw [Lf.cat_len]; omega
  generalize (a.cat b).len = L at *
  generalize a.len = k at *
  have g1 : ¬ (k : Int) < 0 := by omega
  have g2 : ¬ (L : Int) < (k : Int) := by omega
  clear G h1 h2 hbad hE hp h3
  go_enter Try.func4, Try.ntmps4
  go_wp2_with fail
  refine HF.out.mono ?_
  rintro e w1 ⟨rfl, hB1⟩
  have HB := Lib.hid hB1
  clear hB1
  go_wp2_with fail
  refine (HS.out _ HB.out).mono ?_
  rintro e w2 ⟨rfl, hB2⟩
  replace HB := Lib.hid (HB.out.trans (hB2.mono HB.out.size))
  clear hB2
  go_wp2_with fail
  refine (HR.out _ HB.out).mono ?_
  intro e w3 h
  obtain ⟨qx, cx, rfl, hB2⟩ := h.nil
  replace HB := Lib.hid (HB.out.trans (hB2.mono HB.out.size))
  clear hB2 h
  go_wp2_with fail
  refine (known_any _).mono ?_
  rintro e w9 ⟨rfl, hB9⟩
  replace HB := Lib.hid (HB.out.trans (hB9.mono HB.out.size))
  clear hB9
  go_wp2_with fail
  go_ret
  exact ⟨rfl, HB.out⟩
set_option maxRecDepth 100000 in
set_option maxHeartbeats 6400000 in
theorem broken_ok (G : GivenR w t (a.cat b) pt pl cl) (h1 : smallB (a.cat b) = true) (h2 : smallT t = true) (y z : Lf) (h3 : rwP st t (a.cat b) false = (0, y.cat z)) (h4 : rwP st t a true = (0, y)) :
    Calls Try.prog 4 #[.slice pt t.len ct, .slice pl (a.cat b).len cl, .int .u64 st, .int .i64 (a.len : Int)] w fun e w' => e = .returned (.bool true) ∧ Below w.heap.size w w' := by
  have HF := G.few
  rw [h1] at HF
  replace HF := Lib.hid HF
  have HS := fun w1 hb => G.small ct w1 hb
  rw [h2] at HS
  replace HS := Lib.hid HS
  have HR := fun w1 (hb : Below w.heap.size w w1) => G.rewrite h2 ct false st (ca := cl) w1 hb (In_later G.hl hb (Nat.le_refl _) |>.later (Below.refl _ _) hb.size) (by have := G.wl; omega)
  rw [h3] at HR
  replace HR := Lib.hid HR
  have HR2 := fun w1 (hb : Below w.heap.size w w1) => G.rewrite h2 ct true st (ca := cl) (a := a) w1 hb ((In_later G.hl hb (Nat.le_refl _) |>.later (Below.refl _ _) hb.size).left) (by have := G.wl; have := Lf.wt_left a b; omega)
  rw [h4] at HR2
  replace HR2 := Lib.hid HR2
  have hlen : a.len ≤ (a.cat b).len := by rw [Lf.cat_len]; omega
  have hcl := G.hcl
  have HSM := Lib.hid (fun (p q : Option Addr) (cp cq : Nat) (w1 : World) (k1 : y.In w1 w1.heap.size p) (k2 : y.In w1 w1.heap.size q) => refSame_any y y p q cp cq _ w1 k1 k2 (Nat.le_refl _))
  rw [← Lf.same_true (rfl : y = y)] at HSM
  generalize (a.cat b).len = L at *
  generalize a.len = k at *
  have g1 : ¬ (k : Int) < 0 := by omega
  have g2 : ¬ (L : Int) < (k : Int) := by omega
  have g3 : k ≤ cl := by omega
  clear G h1 h2 h3 h4
  go_enter Try.func4, Try.ntmps4
  go_wp2_with fail
  refine HF.out.mono ?_
  rintro e w1 ⟨rfl, hB1⟩
  have HB := Lib.hid hB1
  clear hB1
  go_wp2_with fail
  refine (HS.out _ HB.out).mono ?_
  rintro e w2 ⟨rfl, hB2⟩
  replace HB := Lib.hid (HB.out.trans (hB2.mono HB.out.size))
  clear hB2
  go_wp2_with fail
  refine (HR.out _ HB.out).mono ?_
  intro e w3 h
  obtain ⟨qx, cx, nx, rfl, hin, hyn, hnc, hB2⟩ := h.two
  replace HB := Lib.hid (HB.out.trans (hB2.mono HB.out.size))
  have HIN := Lib.hid hin
  clear hB2 h hin
  go_wp2_with fail
  refine (HR2.out _ HB.out).mono ?_
  intro e w4 h
  obtain ⟨qy, cy, rfl, hiy, hyc, hB2⟩ := h.one
  replace HB := Lib.hid (HB.out.trans (hB2.mono HB.out.size))
  have HIN2 := Lib.hid (And.intro hiy (HIN.out.later hB2 hB2.size))
  clear hB2 h hiy HIN
  have g4 : y.len ≤ cx := by omega
  go_wp2_with fail
  refine (HSM.out _ _ _ _ _ HIN2.out.1 HIN2.out.2).mono ?_
  rintro e w5 ⟨rfl, hB2⟩
  replace HB := Lib.hid (HB.out.trans (hB2.mono HB.out.size))
  clear hB2
  go_wp2_with fail
  refine (known_any _).mono ?_
  rintro e w9 ⟨rfl, hB9⟩
  replace HB := Lib.hid (HB.out.trans (hB9.mono HB.out.size))
  clear hB9
  go_wp2_with fail
  go_ret
  exact ⟨rfl, HB.out⟩
end
theorem law_broken (t : Tf) (l : Lf) (pt pl : Option Addr) (ct cl : Nat) (st n : Int) (w : World) (G : GivenR w t l pt pl cl) :
    Calls Try.prog 4 #[.slice pt t.len ct, .slice pl l.len cl, .int .u64 st, .int .i64 n] w fun e w' => e = .returned (.bool true) ∧ Below w.heap.size w w' := by
  cases h1 : smallB l with
  | false => exact broken_few t l pt pl ct cl st n w G h1
  | true =>
    cases h2 : smallT t with
    | false => exact broken_small t l pt pl ct cl st n w G h1 h2
    | true =>
      by_cases h3 : n < 0
      · exact broken_low t l pt pl ct cl st n w G h1 h2 h3
      · by_cases h4 : (l.len : Int) < n
        · exact broken_high t l pt pl ct cl st n w G h1 h2 h3 h4
        · obtain ⟨k, rfl⟩ : ∃ k : Nat, n = k := ⟨n.toNat, by omega⟩
          obtain ⟨a, b, rfl, rfl⟩ := Lf.split l k (by omega)
          by_cases h5 : (rwP st t (a.cat b) false).1 = 0
          · obtain ⟨y, z, e1, e2⟩ := broken_plain h1 h2 h5
            exact broken_ok t a b pt pl ct cl st w G h1 h2 y z e1 e2
          · exact broken_err t a b pt pl ct cl st w G h1 h2 h5
end Go.Proofs.Ytcadeeldogknmaa
