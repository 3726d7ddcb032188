/- Of. -/
import Derived.Test.YtajjpaabkdgjbaaD7
import Derived.Test.YtajjpaabkdgjbaaB6
import Derived.Laws.IdiomCopy
namespace Go.Proofs.Ytajjpaabkdgjbaa
open Go.RowKit

/-- words from the j-th on were stored -/
def fillA (f : Nat → Nat) : Nat → List Nat → (Nat → Nat)
  | _, [] => f
  | j, x :: xs => fillA (upd f j x) (j + 1) xs
theorem fillA_at : ∀ (xs : List Nat) (f : Nat → Nat) (j i : Nat), fillA f j xs i = if j ≤ i ∧ i < j + xs.length then xs.getD (i - j) 0 else f i
  | [], f, j, i => by rw [fillA, if_neg (by simp)]
  | x :: xs, f, j, i => by
    rw [fillA, fillA_at xs]
    by_cases h : i = j
    · subst h
      rw [if_neg (by omega), if_pos (by simp), Nat.sub_self, upd, if_pos rfl]; rfl
    · by_cases h2 : j + 1 ≤ i ∧ i < j + 1 + xs.length
      · rw [if_pos h2, if_pos (by simp; omega), show i - j = (i - (j + 1)) + 1 by omega]; rfl
      · rw [if_neg h2, if_neg (by simp; omega), upd, if_neg h]
theorem fillA_eq (f : Nat → Nat) (r : Rg) (xs : List Nat) : fillA f (r.addr.toNat / 8) xs = fillW f r xs xs.length := by
  funext i; rw [fillA_at]; rfl
theorem MemIs.setCells {B g : Nat} {l : List Rg} : ∀ (xs : List Nat) {w : World} {f : Nat → Nat} (j : Nat), MemIs w B g l f → j + xs.length ≤ 8192 → (∀ x ∈ xs, x < 18446744073709551616) → MemIs (w.setCells g (2 + j) (u64s xs)) B g l (fillA f j xs)
  | [], _, _, _, h, _, _ => h
  | x :: xs, w, f, j, h, hj, hx => by
    have h1 := h.set j x (by simp at hj; omega) (hx x (by simp))
    exact MemIs.setCells xs (j + 1) h1 (by simp at hj; omega) (fun y hy => hx y (by simp [hy]))
theorem Agr.setCells {g : Nat} : ∀ (vs : List Value) (o : Nat) (w : World), Agr g w (w.setCells g o vs)
  | [], _, _ => Agr.of (Below.refl _ _)
  | v :: vs, o, _w => (Agr.setCell v).trans (Agr.setCells vs (o + 1) _)

/-- what holds while a region's words are stored -/
structure SOf (w : World) (l : List Rg) (f : Nat → Nat) (r : Rg) (xs : List Nat) (j N g k b i : Nat) (q : Option Addr) (c : Nat) (W : World) : Prop where
  mem : ∃ f', (f' = f ∨ f' = fillA f j xs) ∧ MemIs W w.heap.size g l f'
  lt : k < W.heap.size
  v0 : W.cell? ⟨k, 0, none⟩ = some (.string r.name)
  v1 : W.cell? ⟨k, 1, none⟩ = some (.int .i64 r.addr)
  v2 : W.cell? ⟨k, 2, none⟩ = some (.int .i64 r.size)
  v3 : W.cell? ⟨k, 3, none⟩ = some (.bool r.sec)
  row : W.cell? ⟨b, i, none⟩ = some (.slice q xs.length c)
  blt : b < W.heap.size
  src : WAt W N xs (.slice q xs.length c)
  nle : N ≤ W.heap.size
  bel : Below w.heap.size w W
theorem SOf.later {w : World} {l : List Rg} {f : Nat → Nat} {r : Rg} {xs : List Nat} {j N g k b i : Nat} {q : Option Addr} {c : Nat} {W W' : World} (h : SOf w l f r xs j N g k b i q c W) (hB : Below W.heap.size W W') : SOf w l f r xs j N g k b i q c W' :=
  ⟨by obtain ⟨f', h1, h2⟩ := h.mem; exact ⟨f', h1, h2.later hB⟩, Nat.lt_of_lt_of_le h.lt hB.size, (hB.cell (p := ⟨k, 0, none⟩) h.lt).trans h.v0, (hB.cell (p := ⟨k, 1, none⟩) h.lt).trans h.v1, (hB.cell (p := ⟨k, 2, none⟩) h.lt).trans h.v2, (hB.cell (p := ⟨k, 3, none⟩) h.lt).trans h.v3, (hB.cell (p := ⟨b, i, none⟩) h.blt).trans h.row, Nat.lt_of_lt_of_le h.blt hB.size, h.src.later hB h.nle, Nat.le_trans h.nle hB.size, h.bel.trans (hB.mono h.bel.size)⟩
theorem SOf.drew {w : World} {l : List Rg} {f : Nat → Nat} {r : Rg} {xs : List Nat} {j N g k b i : Nat} {q : Option Addr} {c : Nat} {W : World} (h : SOf w l f r xs j N g k b i q c W) : SOf w l f r xs j N g k b i q c W.drew := h.later (Below.refl _ _).drew

theorem fillA_twice (f : Nat → Nat) (j : Nat) (xs : List Nat) : fillA (fillA f j xs) j xs = fillA f j xs := by
  funext i
  rw [fillA_at, fillA_at]
  split <;> rfl
theorem SOf.put {w : World} {l : List Rg} {f : Nat → Nat} {r : Rg} {xs : List Nat} {j N g k b i : Nat} {q : Option Addr} {c : Nat} {W : World} (h : SOf w l f r xs j N g k b i q c W) (hk : k ≠ g) (hb : b ≠ g) (hg : w.heap.size ≤ g) (hN : N ≤ w.heap.size) (hj : j + xs.length ≤ 8192) (hx : ∀ x ∈ xs, x < 18446744073709551616) :
    MemIs (W.setCells g (2 + j) (u64s xs)) w.heap.size g l (fillA f j xs) ∧ SOf w l f r xs j N g k b i q c (W.setCells g (2 + j) (u64s xs)) := by
  have hA : Agr g W (W.setCells g (2 + j) (u64s xs)) := Agr.setCells _ _ _
  have hm : MemIs (W.setCells g (2 + j) (u64s xs)) w.heap.size g l (fillA f j xs) := by
    obtain ⟨f', h1, h2⟩ := h.mem
    have h3 := MemIs.setCells xs j h2 hj hx
    rcases h1 with rfl | rfl
    · exact h3
    · rw [fillA_twice] at h3; exact h3
  have ck : ∀ o, (W.setCells g (2 + j) (u64s xs)).cell? ⟨k, o, none⟩ = W.cell? ⟨k, o, none⟩ := fun o => World.cell?_of_block (w := W) (hA.block k h.lt hk)
  have cb : ∀ o, (W.setCells g (2 + j) (u64s xs)).cell? ⟨b, o, none⟩ = W.cell? ⟨b, o, none⟩ := fun o => World.cell?_of_block (w := W) (hA.block b h.blt hb)
  exact ⟨hm, ⟨⟨_, .inr rfl, hm⟩, Nat.lt_of_lt_of_le h.lt hA.size, (ck _).trans h.v0, (ck _).trans h.v1, (ck _).trans h.v2, (ck _).trans h.v3, (cb _).trans h.row, Nat.lt_of_lt_of_le h.blt hA.size,
    h.src.later (Agr.below (Below.refl N W) hA (by omega) h.nle) (Nat.le_refl _), Nat.le_trans h.nle hA.size, Agr.below h.bel hA hg h.bel.size⟩⟩
theorem SOf.copy {w : World} {l : List Rg} {f : Nat → Nat} {r : Rg} {xs : List Nat} {j N g k b i g3 e3 : Nat} {c : Nat} {W : World} (h : SOf w l f r xs j N g k b i (some ⟨g3, e3, none⟩) c W) (h0 : 0 < xs.length) (hj : j + xs.length ≤ 8192) (ty : TypeId) (d : Nat) :
    (Builtin.copy_ #[54, 54] ty #[.slice (some ⟨g, 2 + j, none⟩) xs.length d, .slice (some ⟨g3, e3, none⟩) xs.length c]).run Try.prog W = .ok (goInt ((xs.length : Nat) : Int)) (W.setCells g (2 + j) (u64s xs)) := by
  have hl : (u64s xs).length = xs.length := by simp [u64s]
  obtain ⟨f', h1, h2⟩ := h.mem
  obtain ⟨q', c', hq, _, _, _, hs⟩ := h.src
  cases hq
  obtain ⟨g4, e4, hq4, hg4, hc4⟩ := hs h0
  cases hq4
  have hr := run_copy_cells (P := Try.prog) W 54 54 ty 25 g (2 + j) xs.length d ⟨g3, e3, none⟩ xs.length c (u64s xs) Try.underlying54 (by kernel_rfl) (by rw [hl]; exact (Nat.min_self _).symm)
    (fun i v hv => by
      simp only [u64s, List.getElem?_map, Option.map_eq_some_iff] at hv
      obtain ⟨x, hx, rfl⟩ := hv
      rw [add_of]
      exact (hc4 i x hx).1)
    (fun i hi => by rw [show 2 + j + i = 2 + (j + i) by omega, (h2.cell (j + i) (by omega)).1]; rfl)
    (fun i hi => by rw [show 2 + j + i = 2 + (j + i) by omega]; exact (h2.cell (j + i) (by omega)).2)
    (fun v hv => by
      simp only [u64s, List.mem_map] at hv
      obtain ⟨x, _, rfl⟩ := hv
      rfl)
  rw [hl] at hr
  exact hr

set_option maxRecDepth 100000 in
set_option maxHeartbeats 3200000 in
theorem of_yes (l : List Rg) (xss : List (List Nat)) (p p2 : Option Addr) (c c2 N : Nat) (w : World) (h : RgIn w N l p) (hx : WsIn w N xss p2) (hN : N ≤ w.heap.size) (hc : l.length ≤ c) (hcm : c ≤ 9223372036854775807) (hp : p = none → c = 0) (hm : mayB l = true) (hf : fitsB l xss = true) :
    Calls Try.prog 10 #[.slice p l.length c, .slice p2 xss.length c2] w fun e w' => (∃ g, e = .returned (.tuple #[.pointer (some ⟨g, 0, none⟩), .int .i64 0]) ∧ MemIs w' w.heap.size g l (fillL l xss (fun _ => 0))) ∧ Below w.heap.size w w' := by
  have HM := Lib.hid (by have := may_any l p c N w h hN hc hcm; rw [hm] at this; exact this : Calls Try.prog 31 #[.slice p l.length c] w fun e w' => e = .returned (.bool true) ∧ Below w.heap.size w w')
  have HF : Hid (∀ w1, Below w.heap.size w w1 → Calls Try.prog 32 #[.slice p l.length c, .slice p2 xss.length c2] w1 fun e w' => e = .returned (.bool true) ∧ Below w1.heap.size w1 w') := Lib.hid fun w1 hB => by
    have := fits_any l xss p p2 c c2 N w1 (h.later (hB.mono hN) (Nat.le_refl _)) (hx.later (hB.mono hN) (Nat.le_refl _)) (Nat.le_trans hN hB.size); rw [hf] at this; exact this
  have hl : l.length ≤ 1000000 := by simp [mayB] at hm; omega
  have HD : Hid (∀ w1, Below w.heap.size w w1 → Calls Try.prog 33 #[.slice p l.length c] w1 fun e w' => (∃ g, e = .returned (.pointer (some ⟨g, 0, none⟩)) ∧ MemIs w' w1.heap.size g l (fun _ => 0)) ∧ Below w1.heap.size w1 w') := Lib.hid fun w1 hB =>
    made_all l p c N w1 (h.later (hB.mono hN) (Nat.le_refl _)) (Nat.le_trans hN hB.size) hl hp
  have HS := Lib.hid h
  have HX := Lib.hid hx
  have HO := Lib.hid (show l.all Rg.ok = true by simp [mayB] at hm; simp; exact hm.2.1)
  have HFB := Lib.hid hf
  have HL := Lib.hid (fitsB_len hf)
  have hml := h.1
  clear h hx hm hf hp
  go_enter Try.func10, Try.ntmps10
  go_wp2_with fail
  refine HM.out.mono ?_
  rintro e w1 ⟨rfl, hB⟩
  have HB1 := Lib.hid hB
  clear hB
  go_wp2_with fail
  refine (HF.out _ HB1.out).mono ?_
  rintro e w2 ⟨rfl, hB⟩
  have HB2 := Lib.hid (HB1.out.trans (hB.mono HB1.out.size))
  clear hB
  go_wp2_with fail
  refine (HD.out _ HB2.out).mono ?_
  rintro e w3 ⟨⟨g, rfl, hI⟩, hB⟩
  have HB3 := Lib.hid (HB2.out.trans (hB.mono HB2.out.size))
  have HI := Lib.hid (hI.base HB2.out.size)
  clear hB hI
  go_wp2_with fail
  go_loopg [22] l.length (fun gh i wr => ∃ (ds rs : List Rg) (es ss : List (List Nat)), gh = rs.length ∧ i = .int .i64 ds.length ∧ Hid (l = ds ++ rs) ∧ Hid (xss = es ++ ss) ∧ Hid (ds.length = es.length) ∧ ds.length + rs.length = l.length ∧ Hid (MemIs wr w.heap.size g l (fillL ds es (fun _ => 0))) ∧ Hid (Below w.heap.size w wr))
  case atStart => exact ⟨[], l, [], xss, rfl, rfl, Lib.hid rfl, Lib.hid rfl, Lib.hid rfl, by simp, HI, HB3⟩
  case round =>
    obtain ⟨ds, rs, es, ss, hg, rfl, hE, hE2, hD, hk, hMr, hB⟩ := hrel
    cases rs with
    | nil =>
      simp only [List.length_nil] at hk
      have hge : ¬ ds.length < l.length := by omega
      have e1 : l = ds := by have := hE.out; rw [List.append_nil] at this; exact this
      have HE1 := Lib.hid e1
      clear e1
      go_wp2_with fail
      go_ret2
      have hss : ss = [] := by
        have h1 := congrArg List.length hE2.out
        have h2 := HL.out
        have h3 := hD.out
        have h4 := congrArg List.length HE1.out
        rw [List.length_append] at h1
        exact List.eq_nil_of_length_eq_zero (by omega)
      have e2 : xss = es := by have := hE2.out; rw [hss, List.append_nil] at this; exact this
      refine ⟨⟨g, rfl, ?_⟩, hB.out⟩
      have := hMr.out
      rw [← HE1.out, ← e2] at this
      exact this
    | cons r rs =>
      simp only [List.length_cons] at hk hg
      obtain ⟨xs, ss, rfl⟩ : ∃ x s', ss = x :: s' := by
        cases ss with
        | cons x s => exact ⟨x, s, rfl⟩
        | nil =>
          have h1 := congrArg List.length hE2.out
          have h2 := HL.out
          have h3 := hD.out
          rw [List.length_append] at h1
          simp only [List.length_nil] at h1
          omega
      obtain ⟨b, o, rfl, hb, hA⟩ : ∃ b o, p = some ⟨b, o, none⟩ ∧ b < N ∧ RgAt w l b o := by
        rcases HS.out.2 with h0 | h0
        · omega
        · exact h0
      have hx1 : ds.length < xss.length := by have := HL.out; omega
      obtain ⟨b2, o2, rfl, hb2, hA2⟩ : ∃ b o, p2 = some ⟨b, o, none⟩ ∧ b < N ∧ ∀ (i : Nat) (xs : List Nat), xss[i]? = some xs → ∃ u, w.cell? ⟨b, o + i, none⟩ = some u ∧ WAt w N xs u := by
        rcases HX.out.2 with h0 | h0
        · omega
        · exact h0
      obtain ⟨u, hu, hw⟩ := hA2 ds.length xs (by rw [hE2.out, hD.out]; simp)
      have HWA := Lib.hid hw
      obtain ⟨q3, c3, rfl, h32, h33, h34, h35⟩ := hw
      rw [hE.out] at hA
      obtain ⟨⟨f0, f1, f2, f3⟩, _⟩ := RgAt.drop ds (r :: rs) b o hA
      have g0 := (hB.out.cell (show b < w.heap.size by omega)).trans f0
      have g1 := (hB.out.cell (show b < w.heap.size by omega)).trans f1
      have g2 := (hB.out.cell (show b < w.heap.size by omega)).trans f2
      have g3 := (hB.out.cell (show b < w.heap.size by omega)).trans f3
      have hlt : ds.length < l.length := by omega
      have hro : r.ok = true := List.all_eq_true.1 HO.out r (by rw [hE.out]; simp)
      obtain ⟨_, r0, r8, rb⟩ := Rg.ok_iff.1 hro
      obtain ⟨_, _, rz1, rz2⟩ := (Rg.ok_iff.1 hro).1
      obtain ⟨j, hj⟩ : ∃ j : Nat, r.addr.toNat / 8 = j := ⟨_, rfl⟩
      have hsz := fitsB_get HFB.out ds.length r xs (by rw [hE.out]; simp) (by rw [hE2.out, hD.out]; simp)
      have hx0 : 0 < xs.length := by clear h35; omega
      obtain ⟨g3, e3, rfl, hg3, hc3⟩ := h35 hx0
      have HXL := Lib.hid (show ∀ x ∈ xs, x < 18446744073709551616 from fun x hx => by obtain ⟨i, hi, rfl⟩ := List.mem_iff_getElem.1 hx; exact (hc3 i _ (List.getElem?_eq_getElem hi)).2)
      clear h35
      have hjA : r.addr = 8 * (j : Int) := by omega
      have hjL : j + xs.length ≤ 6144 := by omega
      have hx512 : xs.length ≤ 512 := by omega
      have h0x := hx0
      have hgB : w.heap.size ≤ g ∧ g < wr.heap.size := by obtain ⟨_, _, _, _, _, _, _, hq5, hq6, hgl, _⟩ := hMr.out; exact ⟨by omega, hgl⟩
      have CW : Hid (∀ W : World, g < W.heap.size → Calls Try.prog 34 #[.pointer (some ⟨g, 0, none⟩), r.val] W fun e w' => e = .returned (.slice (some ⟨g, 2 + j, none⟩) xs.length (8192 - j)) ∧ Below W.heap.size W w') :=
        Lib.hid fun W hW => wordsOf_any r g j xs.length W hW hjA hsz.symm hx512 hjL
      have HJ := Lib.hid (And.intro hj hjL)
      have HBr1 := (Below.refl _ wr).alloc (Nat.le_refl _) (.cells #[.string r.name, .int .i64 r.addr, .int .i64 r.size, .bool r.sec] 66 (0, 0))
      have HS0 : Hid (SOf w l (fillL ds es (fun _ => 0)) r xs j N g wr.heap.size b2 (o2 + ds.length) (some ⟨g3, e3, none⟩) c3 (wr.alloc (.cells #[.string r.name, .int .i64 r.addr, .int .i64 r.size, .bool r.sec] 66 (0, 0)))) := Lib.hid
        ⟨⟨_, .inl rfl, hMr.out.later HBr1⟩, by simp, by simp [go_sem], by simp [go_sem], by simp [go_sem], by simp [go_sem], (HBr1.cell (p := ⟨b2, o2 + ds.length, none⟩) (by have := hB.out.size; show b2 < _; omega)).trans ((hB.out.cell (p := ⟨b2, o2 + ds.length, none⟩) (show b2 < w.heap.size by omega)).trans hu), by have := hB.out.size; simp; omega, (HWA.out.later hB.out hN).later HBr1 (Nat.le_trans hN hB.out.size), by have := hB.out.size; simp; omega, hB.out.trans (HBr1.mono hB.out.size)⟩
      have k0 : (0 : Int) ≤ (ds.length : Int) := by omega
      have k2 : (ds.length : Int) < (xss.length : Int) := by omega
      clear hjA hjL hx512 hA hA2 f0 f1 f2 f3 hu hro r8 rb hj hsz HBr1 hc3
      go_wp2_with fail
      generalize wr.alloc (.cells #[.string r.name, .int .i64 r.addr, .int .i64 r.size, .bool r.sec] 66 (0, 0)) = W1 at HS0 ⊢
      refine wp_region_held_drew (S := (fun W => SOf w l (fillL ds es (fun _ => 0)) r xs j N g wr.heap.size b2 (o2 + ds.length) (some ⟨g3, e3, none⟩) c3 W)) (by kernel_rfl) ?_ (fun hHeld => ?_)
      · (try dsimp only); exact SOf.drew HS0.out
      refine wpAnyH_take (i := 0) (oi := { dst := Option.some 27, op := Go.Op.move (Go.Operand.tmp 6), type := 29, pos := "mem.go:36", after := #[], guard := Option.none }) (v := ?_) rfl (by kernel_rfl) (by kernel_rfl) (by kernel_rfl) (fun _ _ _ h => h) (Or.inl ⟨by rfl, ?_⟩) (by assumption) ?_
      rotate_left
      · (intro W hSw; have z0 := hSw.v0; have z1 := hSw.v1; have z2 := hSw.v2; have z3 := hSw.v3; have zr := hSw.row; clear hSw; go_simp; try with_reducible rfl)
      try simp only [Act.put, List.setIfInBounds_toArray, List.set_cons_zero, List.set_cons_succ]
      refine wpAnyH_take (i := 1) (oi := { dst := Option.some 28, op := Go.Op.load 66 (Go.Operand.tmp 8), type := 66, pos := "mem.go:36", after := #[], guard := Option.none }) (v := ?_) rfl (by kernel_rfl) (by kernel_rfl) (by kernel_rfl) (fun _ _ _ h => h) (Or.inl ⟨by rfl, ?_⟩) (by assumption) ?_
      rotate_left
      · (intro W hSw; have z0 := hSw.v0; have z1 := hSw.v1; have z2 := hSw.v2; have z3 := hSw.v3; have zr := hSw.row; clear hSw; go_simp; try with_reducible rfl)
      try simp only [Act.put, List.setIfInBounds_toArray, List.set_cons_zero, List.set_cons_succ]
      refine wpAnyH_take (i := 3) (oi := { dst := Option.some 30, op := Go.Op.move (Go.Operand.tmp 1), type := 23, pos := "mem.go:36", after := #[], guard := Option.none }) (v := ?_) rfl (by kernel_rfl) (by kernel_rfl) (by kernel_rfl) (fun _ _ _ h => h) (Or.inl ⟨by rfl, ?_⟩) (by assumption) ?_
      rotate_left
      · (intro W hSw; have z0 := hSw.v0; have z1 := hSw.v1; have z2 := hSw.v2; have z3 := hSw.v3; have zr := hSw.row; clear hSw; go_simp; try with_reducible rfl)
      try simp only [Act.put, List.setIfInBounds_toArray, List.set_cons_zero, List.set_cons_succ]
      refine wpAnyH_take (i := 4) (oi := { dst := Option.some 31, op := Go.Op.move (Go.Operand.tmp 7), type := 3, pos := "mem.go:36", after := #[], guard := Option.none }) (v := ?_) rfl (by kernel_rfl) (by kernel_rfl) (by kernel_rfl) (fun _ _ _ h => h) (Or.inl ⟨by rfl, ?_⟩) (by assumption) ?_
      rotate_left
      · (intro W hSw; have z0 := hSw.v0; have z1 := hSw.v1; have z2 := hSw.v2; have z3 := hSw.v3; have zr := hSw.row; clear hSw; go_simp; try with_reducible rfl)
      try simp only [Act.put, List.setIfInBounds_toArray, List.set_cons_zero, List.set_cons_succ]
      refine wpAnyH_take (i := 5) (oi := { dst := Option.some 32, op := Go.Op.indexAddr 23 (Go.Operand.tmp 30) (Go.Operand.tmp 31), type := 0, pos := "mem.go:36", after := #[{ on := 3, ground := Go.Ground.data }, { on := 4, ground := Go.Ground.data }], guard := Option.none }) (v := ?_) rfl (by kernel_rfl) (by kernel_rfl) (by kernel_rfl) (fun _ _ _ h => h) (Or.inl ⟨by rfl, ?_⟩) (by assumption) ?_
      rotate_left
      · (intro W hSw; have z0 := hSw.v0; have z1 := hSw.v1; have z2 := hSw.v2; have z3 := hSw.v3; have zr := hSw.row; clear hSw; go_simp; try with_reducible rfl)
      try simp only [Act.put, List.setIfInBounds_toArray, List.set_cons_zero, List.set_cons_succ]
      refine wpAnyH_take (i := 6) (oi := { dst := Option.some 33, op := Go.Op.load 54 (Go.Operand.tmp 32), type := 54, pos := "mem.go:36", after := #[{ on := 5, ground := Go.Ground.data }], guard := Option.none }) (v := ?_) rfl (by kernel_rfl) (by kernel_rfl) (by kernel_rfl) (fun _ _ _ h => h) (Or.inl ⟨by rfl, ?_⟩) (by assumption) ?_
      rotate_left
      · (intro W hSw; have z0 := hSw.v0; have z1 := hSw.v1; have z2 := hSw.v2; have z3 := hSw.v3; have zr := hSw.row; clear hSw; go_simp; try with_reducible rfl)
      try simp only [Act.put, List.setIfInBounds_toArray, List.set_cons_zero, List.set_cons_succ]
      refine wpAnyH_ready (rs := [2]) (by kernel_rfl) (by simp) ?_
      refine AllReadyH.cons (o := { dst := Option.some 29, op := Go.Op.call { callee := Go.Callee.value (Go.Operand.func 34), args := #[Go.Operand.tmp 27, Go.Operand.tmp 28], argTypes := #[29, 66] }, type := 54, pos := "mem.go:36", after := #[{ on := 0, ground := Go.Ground.data }, { on := 1, ground := Go.Ground.data }], guard := Option.none }) rfl (fun K hK => ?_) AllReadyH.nil
      go_simp
      refine (CW.out _ (by obtain ⟨_, _, hme⟩ := hHeld.mem; obtain ⟨_, _, _, _, _, _, _, _, _, hgl, _⟩ := hme; exact hgl)).mono ?_
      rintro e W2 ⟨rfl, hB⟩
      refine hK.out _ _ ?_ (fun hHeld => ?_)
      · (try dsimp only); exact SOf.later hHeld hB
      clear hK K
      try simp only [Act.put, List.setIfInBounds_toArray, List.set_cons_zero, List.set_cons_succ]
      refine wpAnyH_ready (rs := [7]) (by kernel_rfl) (by simp) ?_
      refine AllReadyH.cons (o := { dst := Option.some 34, op := Go.Op.call { callee := Go.Callee.builtin Go.Builtin.copy, args := #[Go.Operand.tmp 29, Go.Operand.tmp 33], argTypes := #[54, 54] }, type := 3, pos := "mem.go:36", after := #[{ on := 2, ground := Go.Ground.data }, { on := 6, ground := Go.Ground.data }, { on := 2, ground := Go.Ground.chain }], guard := Option.none }) rfl (fun K hK => ?_) AllReadyH.nil
      rw [if_pos (by rfl)]
      have hrun := SOf.copy hHeld h0x (by have := HJ.out.2; omega)
      obtain ⟨hM3, hS3⟩ := SOf.put hHeld (by omega) (by omega) hgB.1 hN (by have := HJ.out.2; omega) HXL.out
      have HM3 := Lib.hid hM3
      have HS3 := Lib.hid hS3
      clear hM3 hS3 hHeld
      go_simp
      refine hK.out _ _ HS3.out (fun _ => ?_)
      clear hK K
      try simp only [Act.put, List.setIfInBounds_toArray, List.set_cons_zero, List.set_cons_succ]
      refine wpAnyH_done (by kernel_rfl) ?_ _
      generalize W2.setCells g (2 + j) (u64s xs) = W3 at HM3 HS3
      go_wp2_with fail
      go_roundg rs.length
      case measure => omega
      case rel =>
        refine ⟨ds ++ [r], rs, es ++ [xs], ss, rfl, by rw [List.length_append]; go_num, Lib.hid (by rw [hE.out]; simp), Lib.hid (by rw [hE2.out]; simp), Lib.hid (by have := hD.out; simp; omega), by simp; omega, Lib.hid ?_, Lib.hid HS3.out.bel⟩
        rw [fillL_app _ _ _ _ _ hD.out, ← fillA_eq, HJ.out.1]
        exact HM3.out
end Go.Proofs.Ytajjpaabkdgjbaa
