/- A copy in new memory: one statement's lists. -/
import Derived.Test.YtnghehcjklkoeaaPI
import Derived.Test.YtnghehcjklkoeaaVL
import Derived.Deep.CutBlock
namespace Go.Proofs.Ytnghehcjklkoeaa
open Go.RowKit

/-- it lies in new memory alone -/
def New (w W : World) (P : World → Nat → Prop) : Prop := ∃ S : Nat → Bool, P (cut S W) W.heap.size ∧ Wr S W.heap.size W ∧ ∀ k, S k = true → w.heap.size ≤ k
def MonoP (P : World → Nat → Prop) : Prop := ∀ v v' N M, P v N → Le v v' → N ≤ M → P v' M
theorem New.later {w W W' : World} {P : World → Nat → Prop} {b : Nat} (h : New w W P) (hP : MonoP P) (hB : Bt b W W') (hb : b < w.heap.size) : New w W' P := by
  obtain ⟨S, h1, h2, h3⟩ := h
  exact ⟨S, hP _ _ _ _ h1 (Le.cut2 fun k hk => ⟨hk, fun o v hv => hB.cell (by have := h3 k hk; omega) hv⟩) hB.size, fun k hk => ⟨Nat.lt_of_lt_of_le (h2 k hk).1 hB.size, fun o => (hB.frozen (h2 k hk).1 o).trans ((h2 k hk).2 o)⟩, h3⟩
theorem New.later2 {w W W' : World} {P : World → Nat → Prop} (h : New w W P) (hP : MonoP P) (hB : Below W.heap.size W W') : New w W' P := by
  obtain ⟨S, h1, h2, h3⟩ := h
  exact ⟨S, hP _ _ _ _ h1 (Le.cut2 fun k hk => ⟨hk, fun o v hv => (hB.cell (p := ⟨k, o, none⟩) (h2 k hk).1).trans hv⟩) hB.size, fun k hk => ⟨Nat.lt_of_lt_of_le (h2 k hk).1 hB.size, fun o => (World.frozen?_of_block (hB.block k (h2 k hk).1)).trans ((h2 k hk).2 o)⟩, h3⟩
theorem New.both {w W : World} {P Q : World → Nat → Prop} (h : New w W P) (k : New w W Q) (hP : MonoP P) (hQ : MonoP Q) : New w W fun v N => P v N ∧ Q v N := by
  obtain ⟨S, h1, h2, h3⟩ := h
  obtain ⟨T, k1, k2, k3⟩ := k
  have hor : ∀ i, (S i || T i) = true → S i = true ∨ T i = true := fun i h => by simpa using h
  refine ⟨fun i => S i || T i, ⟨hP _ _ _ _ h1 (le_cut fun i hi => by simp [hi]) (Nat.le_refl _), hQ _ _ _ _ k1 (le_cut fun i hi => by simp [hi]) (Nat.le_refl _)⟩, fun i hi => ?_, fun i hi => ?_⟩
  · rcases hor i hi with h | h
    · exact h2 i h
    · exact k2 i h
  · rcases hor i hi with h | h
    · exact h3 i h
    · exact k3 i h
theorem New.from {w w1 W : World} {P : World → Nat → Prop} (h : New w1 W P) (hs : w.heap.size ≤ w1.heap.size) : New w W P := by
  obtain ⟨S, h1, h2, h3⟩ := h
  exact ⟨S, h1, h2, fun k hk => Nat.le_trans hs (h3 k hk)⟩
theorem MonoP.and {P Q : World → Nat → Prop} (h : MonoP P) (k : MonoP Q) : MonoP fun v N => P v N ∧ Q v N := fun _ _ _ _ hp hl hm => ⟨h _ _ _ _ hp.1 hl hm, k _ _ _ _ hp.2 hl hm⟩
theorem mono_exs (l : Exs) (q : Option Addr) : MonoP fun v N => l.In v N q := fun _ _ _ _ h hl hm => h.le hl hm
theorem mono_sts (l : Sts) (q : Option Addr) : MonoP fun v N => l.In v N q := fun _ _ _ _ h hl hm => h.le hl hm
theorem mono_strs (l : List (List UInt8)) (q : Option Addr) : MonoP fun v N => RowIn N (StrAt v) 1 l q := fun _ _ _ _ h hl hm => h.imp hm fun x b o _ => StrAt.le hl x b o
theorem mono_vrs (l : List Vr) (q : Option Addr) : MonoP fun v N => RowIn N (Vr.At v) 4 l q := fun _ _ _ _ h hl hm => h.imp hm fun x b o _ => Vr.At.le hl x b o
theorem mono_rgs (l : List Rgn) (q : Option Addr) : MonoP fun v N => RowIn N (Rgn.At v) 4 l q := fun _ _ _ _ h hl hm => h.imp hm fun x b o _ => Rgn.At.le hl x b o
theorem mono_fns (l : List Fnc) (q : Option Addr) : MonoP fun v N => RowIn N (Fnc.At v N) 5 l q := fun _ _ _ _ h hl hm => h.imp hm fun x b o _ => Fnc.At.le hl hm x b o
theorem freshTx_new (l : List (List UInt8)) (p : Option Addr) (c N : Nat) (w : World) (h : RowIn N (StrAt w) 1 l p) (hb : l.length ≤ 1048576) :
    Calls Try.prog 26 #[.slice p l.length c] w fun z w' => ∃ q d, z = .returned (.slice q l.length d) ∧ l.length ≤ d ∧ Below w.heap.size w w' ∧ New w w' fun v N => RowIn N (StrAt v) 1 l q := by
  refine (freshTx_any p l.length c (strCells l) w (st_src h) (st_one l) hb).mono ?_
  rintro z w' ⟨v, rfl, hown, hB⟩
  obtain ⟨q, d, S, rfl, hd, hr, hw, hs⟩ := own_in (A := StrAt) (cs := strCells) (fun W l b o h => str_of l b o h) hown h.1
  exact ⟨q, d, rfl, hd, hB, S, hr, hw, hs⟩
theorem freshVr_new (l : List Vr) (p : Option Addr) (c N : Nat) (w : World) (h : RowIn N (Vr.At w) 4 l p) (hb : l.length ≤ 1048576) :
    Calls Try.prog 25 #[.slice p l.length c] w fun z w' => ∃ q d, z = .returned (.slice q l.length d) ∧ Below w.heap.size w w' ∧ New w w' fun v N => RowIn N (Vr.At v) 4 l q := by
  refine (freshVr_any p l.length c (vrCells l) w (vr_src h) (vr_one l) hb).mono ?_
  rintro z w' ⟨v, rfl, hown, hB⟩
  obtain ⟨q, d, S, rfl, hd, hr, hw, hs⟩ := own_in (A := Vr.At) (cs := vrCells) (fun W l b o h => vr_of l b o h) hown h.1
  exact ⟨q, d, rfl, hB, S, hr, hw, hs⟩
theorem freshRg_new (l : List Rgn) (p : Option Addr) (c N : Nat) (w : World) (h : RowIn N (Rgn.At w) 4 l p) (hb : l.length ≤ 1048576) :
    Calls Try.prog 22 #[.slice p l.length c] w fun z w' => ∃ q d, z = .returned (.slice q l.length d) ∧ Below w.heap.size w w' ∧ New w w' fun v N => RowIn N (Rgn.At v) 4 l q := by
  refine (freshRg_any p l.length c (rgCells l) w (rg_src h) (rg_one l) hb).mono ?_
  rintro z w' ⟨v, rfl, hown, hB⟩
  obtain ⟨q, d, S, rfl, hd, hr, hw, hs⟩ := own_in (A := Rgn.At) (cs := rgCells) (fun W l b o h => rg_of l b o h) hown h.1
  exact ⟨q, d, rfl, hB, S, hr, hw, hs⟩
theorem copyE_new (l : Exs) (p : Option Addr) (c N : Nat) (w : World) (h : l.In w N p) (hN : N ≤ w.heap.size) (hb : l.size ≤ 1048576) :
    Calls Try.prog 48 #[.slice p l.len c, .func (Fn.func 47) #[] #[]] w fun z w' => ∃ q d, z = .returned (.slice q l.len d) ∧ Below w.heap.size w w' ∧ New w w' fun v N => l.In v N q := by
  refine (cpe_to _ l (Nat.lt_succ_self _) hb p c N w h hN).mono ?_
  rintro z w' ⟨q, d, S, rfl, hB, h1, h2, h3⟩
  exact ⟨q, d, rfl, hB, S, h1, h2, h3⟩
theorem renewE_new (x : Ex) (p : Option Addr) (c N b o : Nat) (w : World) (h : x.args.In w N p) (hN : N ≤ w.heap.size) (hb : x.args.size ≤ 1048576) (c3 : w.cell? ⟨b, o + 3, none⟩ = some (.slice p x.args.len c)) (f3 : w.frozen? ⟨b, o + 3, none⟩ = false) :
    Calls Try.prog 47 #[.pointer (some ⟨b, o, none⟩)] w fun z w' => z = .returned (.tuple #[]) ∧ ∃ w1 q d, w' = w1.setCell ⟨b, o + 3, none⟩ (.slice q x.args.len d) ∧ Below w.heap.size w w1 ∧ New w w1 fun v N => x.args.In v N q := by
  refine (renew_of (x.args.size + 1) (cpe_to _) x (Nat.lt_succ_self _) hb p c N b o w h hN c3 f3).mono ?_
  rintro z w' ⟨rfl, w1, q, d, S, h0, hB, h1, h2, h3⟩
  exact ⟨rfl, w1, q, d, h0, hB, S, h1, h2, h3⟩
theorem here_put {A : Array Value} {w : World} {b o i : Nat} {v : Value} (h : ∀ j u, A[j]? = some u → w.cell? ⟨b, o + j, none⟩ = some u) : ∀ j u, (A.setIfInBounds i v)[j]? = some u → (w.setCell ⟨b, o + i, none⟩ v).cell? ⟨b, o + j, none⟩ = some u := fun j u hu => by
  rw [Array.getElem?_setIfInBounds] at hu
  by_cases e : i = j
  · subst e
    rw [if_pos rfl] at hu
    split at hu
    · rename_i hlt
      cases hu
      exact World.cell?_setCell_same _ _ _ (h i _ (Array.getElem?_eq_getElem hlt))
    · cases hu
  · rw [if_neg e] at hu
    rw [World.cell?_setCell_other _ _ _ _ (fun e' => by simp only [Addr.mk.injEq] at e'; omega)]; exact h j u hu
/-- it stands there, the rest of the row as it was -/
structure Rn {α σ : Type} (K : Knd α σ) (w : World) (x : α) (b o : Nat) (W : World) (s : σ) : Prop where
  bt : Bt b w W
  out : ∀ j, (j < o ∨ o + K.k ≤ j) → W.cell? ⟨b, j, none⟩ = w.cell? ⟨b, j, none⟩
  here : K.Here W x s b o
theorem Rn.start {α σ : Type} {K : Knd α σ} {w : World} {x : α} {b o : Nat} {s : σ} (h : K.Here w x s b o) : Rn K w x b o w s := ⟨Bt.refl _ _, fun _ _ => rfl, h⟩
theorem Rn.call {α σ : Type} {K : Knd α σ} {w W W' : World} {x : α} {b o : Nat} {s : σ} (h : Rn K w x b o W s) (hb : b < w.heap.size) (hB : Below W.heap.size W W') : Rn K w x b o W' s :=
  have hbW : b < W.heap.size := Nat.lt_of_lt_of_le hb h.bt.size
  ⟨h.bt.trans (Bt.of hB), fun j hj => (hB.cell (p := ⟨b, j, none⟩) hbW).trans (h.out j hj), fun j u hu => (hB.cell (p := ⟨b, _, none⟩) hbW).trans (h.here j u hu)⟩
theorem Rn.put {α σ : Type} {K : Knd α σ} {w W : World} {x : α} {b o : Nat} {s : σ} (h : Rn K w x b o W s) (i : Nat) (v : Value) (s' : σ) (hi : i < K.k) (hs : (K.cells x s).setIfInBounds i v = K.cells x s') : Rn K w x b o (W.setCell ⟨b, o + i, none⟩ v) s' :=
  ⟨h.bt.trans (Bt.put _ _ _ _), fun j hj => by rw [World.cell?_setCell_other _ _ _ _ (fun e => by cases e; omega)]; exact h.out j hj, by
    unfold Knd.Here; rw [← hs]; exact here_put h.here⟩
theorem Rn.fz {α σ : Type} {K : Knd α σ} {w W : World} {x : α} {b o : Nat} {s : σ} (h : Rn K w x b o W s) (hb : b < w.heap.size) (hf : ∀ o, w.frozen? ⟨b, o, none⟩ = false) (o' : Nat) : W.frozen? ⟨b, o', none⟩ = false := (h.bt.fz hb o').trans (hf o')

def CpS (n : Nat) : Prop := ∀ l : Sts, l.size < n → l.big ≤ 1048576 → ∀ (p : Option Addr) (c N : Nat) (w : World), l.In w N p → N ≤ w.heap.size →
    Calls Try.prog 27 #[.slice p l.len c, .func (Fn.func 28) #[] #[]] w fun z w' => ∃ q d, z = .returned (.slice q l.len d) ∧ Below w.heap.size w w' ∧ New w w' fun v N => l.In v N q
set_option maxRecDepth 100000 in
set_option maxHeartbeats 6400000 in
theorem renewS_of (n : Nat) (ih : CpS n) (x : St) (hx : x.body.size < n ∧ x.els.size < n) (hbg : x.big ≤ 1048576) (s : StP) (N b o : Nat) (w : World) (hok : x.Ok w N s) (hN : N ≤ b) (hbw : b < w.heap.size) (hc : stK.Here w x s b o) (hf : ∀ o', w.frozen? ⟨b, o', none⟩ = false) :
    Calls Try.prog 28 #[.pointer (some ⟨b, o, none⟩)] w fun z w' => z = .returned (.tuple #[]) ∧ Bt b w w' ∧ (∀ j, (j < o ∨ o + 16 ≤ j) → w'.cell? ⟨b, j, none⟩ = w.cell? ⟨b, j, none⟩) ∧
      ∃ S, stK.Done w' S w'.heap.size x b o ∧ Wr S w'.heap.size w' ∧ ∀ k, S k = true → w.heap.size ≤ k := by
  have hNw : N ≤ w.heap.size := by omega
  have hbe := x.big_eq
  have hzE : x.e.args.size ≤ 1048576 := by
    have h0 : x.e.args.size < x.e.size := (by obtain ⟨a, b, c, d⟩ := x.e; simp only [Ex.args, Ex.size]; omega)
    omega
  have hzA : x.a.args.size ≤ 1048576 := by
    have h0 : x.a.args.size < x.a.size := (by obtain ⟨a, b, c, d⟩ := x.a; simp only [Ex.args, Ex.size]; omega)
    omega
  have HB := Lib.hid hbw
  have HFz := Lib.hid hf
  have hlt : ∀ {W : World}, Bt b w W → N ≤ W.heap.size := fun h => Nat.le_trans hNw h.size
  have HE := Lib.hid (fun (W : World) (hB : Bt b w W) (s' : StP) (hR : Rn stK w x b o W s') (h6 : s'.pe = s.pe) => renewE_new x.e s'.pe s'.ce N b (o + 3) W (h6 ▸ (hok.2.1.later (hB.below hN hNw) (Nat.le_refl N)).1) (hlt hB) hzE (hR.here 6 _ rfl) (hR.fz hbw hf _))
  have HA := Lib.hid (fun (W : World) (hB : Bt b w W) (s' : StP) (hR : Rn stK w x b o W s') (h6 : s'.pa = s.pa) => renewE_new x.a s'.pa s'.ca N b (o + 7) W (h6 ▸ (hok.2.2.1.later (hB.below hN hNw) (Nat.le_refl N)).1) (hlt hB) hzA (hR.here 10 _ rfl) (hR.fz hbw hf _))
  have HN := Lib.hid (fun (W : World) (hB : Bt b w W) => freshTx_new x.names s.pn s.cn N W (hok.1.2.imp (Nat.le_refl N) (StrAt.later (hB.below hN hNw))) (by omega))
  have HG := Lib.hid (fun (W : World) (hB : Bt b w W) => copyE_new x.args s.pg s.cg N W (hok.2.2.2.1.later (hB.below hN hNw) (Nat.le_refl N)) (hlt hB) (by omega))
  have HBd := Lib.hid (fun (W : World) (hB : Bt b w W) => ih x.body hx.1 (by omega) s.pb s.cb N W (hok.2.2.2.2.1.later (hB.below hN hNw) (Nat.le_refl N)) (hlt hB))
  have HEl := Lib.hid (fun (W : World) (hB : Bt b w W) => ih x.els hx.2 (by omega) s.pl s.cl N W (hok.2.2.2.2.2.1.later (hB.below hN hNw) (Nat.le_refl N)) (hlt hB))
  have HW := Lib.hid (show x.e.word < 18446744073709551616 ∧ x.a.word < 18446744073709551616 ∧ x.low < 18446744073709551616 ∧ x.high < 18446744073709551616 from ⟨hok.2.1.2, hok.2.2.1.2, hok.2.2.2.2.2.2⟩)
  have HR0 := Lib.hid (Rn.start (K := stK) hc)
  clear ih hx hbg hok hN hbw hc hf hNw hbe hzE hzA hlt
  have HC := Lib.hid (HE.out w (Bt.refl _ _) s HR0.out rfl)
  go_enter Try.func28, Try.ntmps28
  go_wp2_with fail
  refine HC.out.mono ?_
  rintro z _ ⟨rfl, w1, q6, d6, rfl, hB1, hN1⟩
  have HR1 := Lib.hid (show Rn stK w x b o (w1.setCell ⟨b, o + 3 + 3, none⟩ (.slice q6 x.e.args.len d6)) { s with pe := q6, ce := d6 } from (HR0.out.call HB.out hB1).put 6 _ _ (by decide) rfl)
  have HN1 := Lib.hid (hN1.later (mono_exs _ _) (Bt.put b (o + 3 + 3) w1 (.slice q6 x.e.args.len d6)) HB.out)
  obtain ⟨W1, hW1⟩ : ∃ W1, W1 = w1.setCell ⟨b, o + 3 + 3, none⟩ (.slice q6 x.e.args.len d6) := ⟨_, rfl⟩
  rw [← hW1] at HR1 HN1
  simp only [← hW1]
  clear hB1 hN1 HC hW1 HR0 HE
  have HC := Lib.hid (HA.out W1 HR1.out.bt _ HR1.out rfl)
  go_wp2_with fail
  refine HC.out.mono ?_
  rintro z _ ⟨rfl, w2, q10, d10, rfl, hB2, hN2⟩
  have HR2 := Lib.hid (show Rn stK w x b o (w2.setCell ⟨b, o + 7 + 3, none⟩ (.slice q10 x.a.args.len d10)) { s with pe := q6, ce := d6, pa := q10, ca := d10 } from (HR1.out.call HB.out hB2).put 10 _ _ (by decide) rfl)
  have HN2 := Lib.hid (((HN1.out.later (mono_exs _ _) (Bt.of hB2) HB.out).later (mono_exs _ _) (Bt.put b (o + 7 + 3) w2 (.slice q10 x.a.args.len d10)) HB.out).both ((hN2.from HR1.out.bt.size).later (mono_exs _ _) (Bt.put b (o + 7 + 3) w2 (.slice q10 x.a.args.len d10)) HB.out) (mono_exs _ _) (mono_exs _ _))
  obtain ⟨W2, hW2⟩ : ∃ W2, W2 = w2.setCell ⟨b, o + 7 + 3, none⟩ (.slice q10 x.a.args.len d10) := ⟨_, rfl⟩
  rw [← hW2] at HR2 HN2
  simp only [← hW2]
  clear hB2 hN2 HC hW2 HR1 HN1 HA
  have HM2 := Lib.hid (MonoP.and (mono_exs x.e.args q6) (mono_exs x.a.args q10))
  go_upto_region 2 with fail
  have hR := HR2.out.call HB.out (Below.refl W2.heap.size W2).drew
  have HN3 := Lib.hid (HN2.out.later HM2.out (Bt.drew b W2) HB.out)
  have HC := Lib.hid (HN.out _ hR.bt)
  refine bgk 14 (fun W => W.cell? ⟨b, o + 2, none⟩ = some (.slice s.pn x.names.length s.cn) ∧ W.cell? ⟨b, o + 11, none⟩ = some (.slice s.pg x.args.len s.cg)) (⟨hR.here 2 _ rfl, hR.here 11 _ rfl⟩) (fun hHeld => ?_)
  refine tk0 0 ?_ rfl (.inl ⟨by rfl, ?_⟩) ?_
  rotate_left
  · (intro w hSw; (try dsimp only at hSw); go_simp; try with_reducible rfl)
  try simp only [Act.put, List.setIfInBounds_toArray, List.set_cons_zero, List.set_cons_succ]
  refine tk0 1 ?_ rfl (.inl ⟨by rfl, ?_⟩) ?_
  rotate_left
  · (intro w hSw; (try dsimp only at hSw); go_simp; try with_reducible rfl)
  try simp only [Act.put, List.setIfInBounds_toArray, List.set_cons_zero, List.set_cons_succ]
  refine tk0 2 ?_ rfl (.inl ⟨by rfl, ?_⟩) ?_
  rotate_left
  · (intro w hSw; (try dsimp only at hSw); go_simp; try with_reducible rfl)
  try simp only [Act.put, List.setIfInBounds_toArray, List.set_cons_zero, List.set_cons_succ]
  refine tk0 3 ?_ rfl (.inl ⟨by rfl, ?_⟩) ?_
  rotate_left
  · (intro w hSw; (try dsimp only at hSw); go_simp; try with_reducible rfl)
  try simp only [Act.put, List.setIfInBounds_toArray, List.set_cons_zero, List.set_cons_succ]
  refine tk0 4 ?_ rfl (.inl ⟨by rfl, ?_⟩) ?_
  rotate_left
  · (intro w hSw; (try dsimp only at hSw); go_simp; try with_reducible rfl)
  try simp only [Act.put, List.setIfInBounds_toArray, List.set_cons_zero, List.set_cons_succ]
  refine tkl 5 ?_ rfl (.inl ⟨by rfl, ?_⟩) ?_
  rotate_left
  · (intro w hSw; (try dsimp only at hSw); go_simp; try with_reducible rfl)
  try simp only [Act.put, List.setIfInBounds_toArray, List.set_cons_zero, List.set_cons_succ]
  refine tk0 7 ?_ rfl (.inl ⟨by rfl, ?_⟩) ?_
  rotate_left
  · (intro w hSw; (try dsimp only at hSw); go_simp; try with_reducible rfl)
  try simp only [Act.put, List.setIfInBounds_toArray, List.set_cons_zero, List.set_cons_succ]
  refine tk0 8 ?_ rfl (.inl ⟨by rfl, ?_⟩) ?_
  rotate_left
  · (intro w hSw; (try dsimp only at hSw); go_simp; try with_reducible rfl)
  try simp only [Act.put, List.setIfInBounds_toArray, List.set_cons_zero, List.set_cons_succ]
  refine tk0 9 ?_ rfl (.inl ⟨by rfl, ?_⟩) ?_
  rotate_left
  · (intro w hSw; (try dsimp only at hSw); go_simp; try with_reducible rfl)
  try simp only [Act.put, List.setIfInBounds_toArray, List.set_cons_zero, List.set_cons_succ]
  refine tkl 10 ?_ rfl (.inl ⟨by rfl, ?_⟩) ?_
  rotate_left
  · (intro w hSw; (try dsimp only at hSw); go_simp; try with_reducible rfl)
  try simp only [Act.put, List.setIfInBounds_toArray, List.set_cons_zero, List.set_cons_succ]
  refine rdk 6 rfl (fun K hK => ?_)
  go_simp
  refine HC.out.mono ?_
  rintro z w3 ⟨q2, d2, rfl, hd2, hB3, hN3⟩
  replace hR := hR.call HB.out hB3
  have HN4 := Lib.hid ((HN3.out.later HM2.out (Bt.of (g := b) hB3) HB.out).both (hN3.from (HR2.out.bt.trans (Bt.drew b W2)).size) HM2.out (mono_strs _ _))
  have HM4 := Lib.hid (HM2.out.and (mono_strs x.names q2))
  have HD2 := Lib.hid hd2
  have HC2 := Lib.hid (HG.out _ hR.bt)
  clear hB3 hN3 HC HN3 hd2 HN HG
  refine hK.out _ _ ?_ (fun hHeld => ?_)
  · exact ⟨hR.here 2 _ rfl, hR.here 11 _ rfl⟩
  clear hK K
  try simp only [Act.put, List.setIfInBounds_toArray, List.set_cons_zero, List.set_cons_succ]
  refine rdk 11 rfl (fun K hK => ?_)
  go_simp
  refine HC2.out.mono ?_
  rintro z w4 ⟨q11, d11, rfl, hB4, hN4⟩
  have hs3 : w.heap.size ≤ w3.heap.size := hR.bt.size
  replace hR := hR.call HB.out hB4
  have HN5 := Lib.hid ((HN4.out.later HM4.out (Bt.of (g := b) hB4) HB.out).both (hN4.from hs3) HM4.out (mono_exs _ _))
  have HM5 := Lib.hid (HM4.out.and (mono_exs x.args q11))
  clear hB4 hN4 HC2 HN4 hs3
  refine hK.out _ _ ?_ (fun hHeld => ?_)
  · exact ⟨hR.here 2 _ rfl, hR.here 11 _ rfl⟩
  clear hK K
  try simp only [Act.put, List.setIfInBounds_toArray, List.set_cons_zero, List.set_cons_succ]
  refine tk0 12 ?_ rfl (.inl ⟨by rfl, ?_⟩) ?_
  rotate_left
  · (intro w hSw; (try dsimp only at hSw); go_simp; try with_reducible rfl)
  try simp only [Act.put, List.setIfInBounds_toArray, List.set_cons_zero, List.set_cons_succ]
  refine tk0 13 ?_ rfl (.inl ⟨by rfl, ?_⟩) ?_
  rotate_left
  · (intro w hSw; (try dsimp only at hSw); go_simp; try with_reducible rfl)
  try simp only [Act.put, List.setIfInBounds_toArray, List.set_cons_zero, List.set_cons_succ]
  refine rdb 14 rfl (fun K hK => ?_)
  have f2 := hR.fz HB.out HFz.out (o + 2)
  have c2 := hR.here 2 _ rfl
  go_simp
  refine hK.out _ _ ?_
  have hR2 := hR.put 2 (.slice q2 x.names.length d2) { s with pe := q6, ce := d6, pa := q10, ca := d10, pn := q2, cn := d2 } (by decide) rfl
  have HN6 := Lib.hid (HN5.out.later HM5.out (Bt.put b (o + 2) w4 (.slice q2 x.names.length d2)) HB.out)
  generalize w4.setCell ⟨b, o + 2, none⟩ (.slice q2 x.names.length d2) = w5 at hR2 HN6 ⊢
  clear HN5 f2 c2 hR
  clear hK K
  try simp only [Act.put, List.setIfInBounds_toArray, List.set_cons_zero, List.set_cons_succ]
  refine tkb 15 ?_ rfl (.inl ⟨by rfl, ?_⟩) ?_
  rotate_left
  · (intro w hSw; (try dsimp only at hSw); go_simp; try with_reducible rfl)
  try simp only [Act.put, List.setIfInBounds_toArray, List.set_cons_zero, List.set_cons_succ]
  refine tkb 16 ?_ rfl (.inl ⟨by rfl, ?_⟩) ?_
  rotate_left
  · (intro w hSw; (try dsimp only at hSw); go_simp; try with_reducible rfl)
  try simp only [Act.put, List.setIfInBounds_toArray, List.set_cons_zero, List.set_cons_succ]
  refine rdb 17 rfl (fun K hK => ?_)
  have f2 := hR2.fz HB.out HFz.out (o + 11)
  have c2 := hR2.here 11 _ rfl
  go_simp
  refine hK.out _ _ ?_
  have hR3 := hR2.put 11 (.slice q11 x.args.len d11) { s with pe := q6, ce := d6, pa := q10, ca := d10, pn := q2, cn := d2, pg := q11, cg := d11 } (by decide) rfl
  have HN7 := Lib.hid (HN6.out.later HM5.out (Bt.put b (o + 11) w5 (.slice q11 x.args.len d11)) HB.out)
  generalize w5.setCell ⟨b, o + 11, none⟩ (.slice q11 x.args.len d11) = w6 at hR3 HN7 ⊢
  clear HN6 f2 c2 hR2
  clear hK K
  try simp only [Act.put, List.setIfInBounds_toArray, List.set_cons_zero, List.set_cons_succ]
  refine dnk ?_ (by kernel_rfl) _
  have HR3 := Lib.hid hR3
  clear hR3 HR2 HN2 HM2 HM4
  go_upto_region 3 with fail
  have hR := HR3.out.call HB.out (Below.refl w6.heap.size w6).drew
  have HN3 := Lib.hid (HN7.out.later HM5.out (Bt.drew b w6) HB.out)
  have HC := Lib.hid (HBd.out _ hR.bt)
  refine bgk 14 (fun W => W.cell? ⟨b, o + 14, none⟩ = some (.slice s.pb x.body.len s.cb) ∧ W.cell? ⟨b, o + 15, none⟩ = some (.slice s.pl x.els.len s.cl)) (⟨hR.here 14 _ rfl, hR.here 15 _ rfl⟩) (fun hHeld => ?_)
  refine tk0 0 ?_ rfl (.inl ⟨by rfl, ?_⟩) ?_
  rotate_left
  · (intro w hSw; (try dsimp only at hSw); go_simp; try with_reducible rfl)
  try simp only [Act.put, List.setIfInBounds_toArray, List.set_cons_zero, List.set_cons_succ]
  refine tk0 1 ?_ rfl (.inl ⟨by rfl, ?_⟩) ?_
  rotate_left
  · (intro w hSw; (try dsimp only at hSw); go_simp; try with_reducible rfl)
  try simp only [Act.put, List.setIfInBounds_toArray, List.set_cons_zero, List.set_cons_succ]
  refine tk0 2 ?_ rfl (.inl ⟨by rfl, ?_⟩) ?_
  rotate_left
  · (intro w hSw; (try dsimp only at hSw); go_simp; try with_reducible rfl)
  try simp only [Act.put, List.setIfInBounds_toArray, List.set_cons_zero, List.set_cons_succ]
  refine tk0 3 ?_ rfl (.inl ⟨by rfl, ?_⟩) ?_
  rotate_left
  · (intro w hSw; (try dsimp only at hSw); go_simp; try with_reducible rfl)
  try simp only [Act.put, List.setIfInBounds_toArray, List.set_cons_zero, List.set_cons_succ]
  refine tk0 4 ?_ rfl (.inl ⟨by rfl, ?_⟩) ?_
  rotate_left
  · (intro w hSw; (try dsimp only at hSw); go_simp; try with_reducible rfl)
  try simp only [Act.put, List.setIfInBounds_toArray, List.set_cons_zero, List.set_cons_succ]
  refine tkl 5 ?_ rfl (.inl ⟨by rfl, ?_⟩) ?_
  rotate_left
  · (intro w hSw; (try dsimp only at hSw); go_simp; try with_reducible rfl)
  try simp only [Act.put, List.setIfInBounds_toArray, List.set_cons_zero, List.set_cons_succ]
  refine tk0 7 ?_ rfl (.inl ⟨by rfl, ?_⟩) ?_
  rotate_left
  · (intro w hSw; (try dsimp only at hSw); go_simp; try with_reducible rfl)
  try simp only [Act.put, List.setIfInBounds_toArray, List.set_cons_zero, List.set_cons_succ]
  refine tk0 8 ?_ rfl (.inl ⟨by rfl, ?_⟩) ?_
  rotate_left
  · (intro w hSw; (try dsimp only at hSw); go_simp; try with_reducible rfl)
  try simp only [Act.put, List.setIfInBounds_toArray, List.set_cons_zero, List.set_cons_succ]
  refine tk0 9 ?_ rfl (.inl ⟨by rfl, ?_⟩) ?_
  rotate_left
  · (intro w hSw; (try dsimp only at hSw); go_simp; try with_reducible rfl)
  try simp only [Act.put, List.setIfInBounds_toArray, List.set_cons_zero, List.set_cons_succ]
  refine tkl 10 ?_ rfl (.inl ⟨by rfl, ?_⟩) ?_
  rotate_left
  · (intro w hSw; (try dsimp only at hSw); go_simp; try with_reducible rfl)
  try simp only [Act.put, List.setIfInBounds_toArray, List.set_cons_zero, List.set_cons_succ]
  refine rdk 6 rfl (fun K hK => ?_)
  go_simp
  refine HC.out.mono ?_
  rintro z w7 ⟨q14, d14, rfl, hB3, hN3⟩
  replace hR := hR.call HB.out hB3
  have HN4 := Lib.hid ((HN3.out.later HM5.out (Bt.of (g := b) hB3) HB.out).both (hN3.from (HR3.out.bt.trans (Bt.drew b w6)).size) HM5.out (mono_sts _ _))
  have HM6 := Lib.hid (HM5.out.and (mono_sts x.body q14))
  have HC2 := Lib.hid (HEl.out _ hR.bt)
  clear hB3 hN3 HC HN3 HBd HEl
  refine hK.out _ _ ?_ (fun hHeld => ?_)
  · exact ⟨hR.here 14 _ rfl, hR.here 15 _ rfl⟩
  clear hK K
  try simp only [Act.put, List.setIfInBounds_toArray, List.set_cons_zero, List.set_cons_succ]
  refine rdk 11 rfl (fun K hK => ?_)
  go_simp
  refine HC2.out.mono ?_
  rintro z w8 ⟨q15, d15, rfl, hB4, hN4⟩
  have hs3 : w.heap.size ≤ w7.heap.size := hR.bt.size
  replace hR := hR.call HB.out hB4
  have HN5 := Lib.hid ((HN4.out.later HM6.out (Bt.of (g := b) hB4) HB.out).both (hN4.from hs3) HM6.out (mono_sts _ _))
  have HM7 := Lib.hid (HM6.out.and (mono_sts x.els q15))
  clear hB4 hN4 HC2 HN4 hs3
  refine hK.out _ _ ?_ (fun hHeld => ?_)
  · exact ⟨hR.here 14 _ rfl, hR.here 15 _ rfl⟩
  clear hK K
  try simp only [Act.put, List.setIfInBounds_toArray, List.set_cons_zero, List.set_cons_succ]
  refine tk0 12 ?_ rfl (.inl ⟨by rfl, ?_⟩) ?_
  rotate_left
  · (intro w hSw; (try dsimp only at hSw); go_simp; try with_reducible rfl)
  try simp only [Act.put, List.setIfInBounds_toArray, List.set_cons_zero, List.set_cons_succ]
  refine tk0 13 ?_ rfl (.inl ⟨by rfl, ?_⟩) ?_
  rotate_left
  · (intro w hSw; (try dsimp only at hSw); go_simp; try with_reducible rfl)
  try simp only [Act.put, List.setIfInBounds_toArray, List.set_cons_zero, List.set_cons_succ]
  refine rdb 14 rfl (fun K hK => ?_)
  have f2 := hR.fz HB.out HFz.out (o + 14)
  have c2 := hR.here 14 _ rfl
  go_simp
  refine hK.out _ _ ?_
  have hR2 := hR.put 14 (.slice q14 x.body.len d14) { s with pe := q6, ce := d6, pa := q10, ca := d10, pn := q2, cn := d2, pg := q11, cg := d11, pb := q14, cb := d14 } (by decide) rfl
  have HN6 := Lib.hid (HN5.out.later HM7.out (Bt.put b (o + 14) w8 (.slice q14 x.body.len d14)) HB.out)
  generalize w8.setCell ⟨b, o + 14, none⟩ (.slice q14 x.body.len d14) = w9 at hR2 HN6 ⊢
  clear HN5 f2 c2 hR
  clear hK K
  try simp only [Act.put, List.setIfInBounds_toArray, List.set_cons_zero, List.set_cons_succ]
  refine tkb 15 ?_ rfl (.inl ⟨by rfl, ?_⟩) ?_
  rotate_left
  · (intro w hSw; (try dsimp only at hSw); go_simp; try with_reducible rfl)
  try simp only [Act.put, List.setIfInBounds_toArray, List.set_cons_zero, List.set_cons_succ]
  refine tkb 16 ?_ rfl (.inl ⟨by rfl, ?_⟩) ?_
  rotate_left
  · (intro w hSw; (try dsimp only at hSw); go_simp; try with_reducible rfl)
  try simp only [Act.put, List.setIfInBounds_toArray, List.set_cons_zero, List.set_cons_succ]
  refine rdb 17 rfl (fun K hK => ?_)
  have f2 := hR2.fz HB.out HFz.out (o + 15)
  have c2 := hR2.here 15 _ rfl
  go_simp
  refine hK.out _ _ ?_
  have hR3 := hR2.put 15 (.slice q15 x.els.len d15) { s with pe := q6, ce := d6, pa := q10, ca := d10, pn := q2, cn := d2, pg := q11, cg := d11, pb := q14, cb := d14, pl := q15, cl := d15 } (by decide) rfl
  have HN7 := Lib.hid (HN6.out.later HM7.out (Bt.put b (o + 15) w9 (.slice q15 x.els.len d15)) HB.out)
  generalize w9.setCell ⟨b, o + 15, none⟩ (.slice q15 x.els.len d15) = w10 at hR3 HN7 ⊢
  clear HN6 f2 c2 hR2
  clear hK K
  try simp only [Act.put, List.setIfInBounds_toArray, List.set_cons_zero, List.set_cons_succ]
  refine dnk ?_ (by kernel_rfl) _
  have HR4 := Lib.hid hR3
  clear hR3 HR3 HM5 HM6
  go_wp2_with fail
  go_end0
  obtain ⟨S, ⟨⟨⟨⟨⟨n1, n2⟩, n3⟩, n4⟩, n5⟩, n6⟩, h2, h3⟩ := HN7.out
  exact ⟨rfl, HR4.out.bt, HR4.out.out, S, ⟨_, HR4.out.here, ⟨⟨HD2.out, n3⟩, ⟨n1, HW.out.1⟩, ⟨n2, HW.out.2.1⟩, n4, n5, n6, HW.out.2.2⟩⟩, h2, h3⟩
end Go.Proofs.Ytnghehcjklkoeaa
