/- The document's: is a program small. -/
import Derived.Test.YtihmibggonffdaaGreatD2
import Derived.Test.YtihmibggonffdaaGreatF1
namespace Go.Proofs.YtihmibggonffdaaGreat
open Go.RowKit

def RMy (M n : Nat) : Prop := ∀ (x : Ex), x.size < n → x.size ≤ 4000000 → ∀ (p : Option Addr) (c N : Nat) (w : World), x.Ok w N p → N ≤ w.heap.size →
   Calls Tryz.prog 49 #[x.val p c, .int .i64 (M : Int)] w fun z w' => (∃ v : Nat, z = .returned (.int .i64 v) ∧ v ≤ x.size ∧ (v ≤ M → x.size + 1 ≤ 2 * v)) ∧ Below w.heap.size w w'
set_option maxHeartbeats 3200000 in
theorem rmy_step (M n : Nat) (ih : RMy M n) : RMy M (n + 1) := by
 intro x hxs hbig p c N w hx hN
 have IH := Lib.hid ih
 clear ih
 obtain ⟨w1, hw1, k0, hB1, hz1⟩ := one_alloc w (.cells #[.int .i64 x.op, .int .u64 (x.word : Int), .string (str x.name), .slice p x.args.len c] 40)
 have hOk1 := (hx.later (hB1.mono hN) (Nat.le_refl N)).1
 have HB1 := Lib.hid hB1
 have HE0 := Lib.hid k0
 have hsz : x.args.size + 1 = x.size := by obtain ⟨op, wd, nm, ar⟩ := x; rw [Ex.size]; rfl
 have hlz : w.heap.size < w1.heap.size := lt_blk k0
 have HNN := Lib.hid hN
 unfold Ex.val
 generalize x.args = l at hOk1 hsz hw1 HE0 ⊢
 generalize x.size = tot at hsz hbig hxs ⊢
 clear k0 hB1 hx
 obtain ⟨hm, hs⟩ := hOk1
 have hstart : ∃ b o, (l.len = 0 ∨ p = some ⟨b, o, none⟩) ∧ (b < N ∨ l.len = 0) ∧ l.At w1 N b o := by
   rcases hs with h0 | ⟨b, o, hp, hb, ha⟩
   · exact ⟨0, 0, .inl h0, .inr h0, by cases l with | nil => trivial | cons => simp [Exs.len] at h0⟩
   · exact ⟨b, o, .inr hp, .inl hb, ha⟩
 obtain ⟨b, o, hp, hb, ha⟩ := hstart
 have HB := Lib.hid hb
 have HT := Lib.hid (And.intro hsz (And.intro hbig hxs))
 clear hb hs hsz hbig hxs
 go_enter Tryz.func49, Tryz.ntmps49
 go_wp2_with fail
 go_loopw [5, 6] (fun d i wr => ∃ (k v : Nat) (r : Exs), d = .int .i64 v ∧ i = .int .i64 k ∧ k + r.len = l.len ∧ Hid (r.size ≤ l.size) ∧ Hid (r.At w1 N b (o + k * 4)) ∧ Hid (v + r.size ≤ tot ∧ (v ≤ M → tot + 1 ≤ 2 * v + r.size)) ∧ Hid (Below w1.heap.size w1 wr)) (fun _ i _ => l.len - (intOf i).toNat)
 case atStart => exact ⟨0, 1, l, rfl, rfl, by omega, Lib.hid (Nat.le_refl _), Lib.hid (by rw [Nat.zero_mul]; exact ha), Lib.hid ⟨by have := HT.out; omega, fun _ => by have := HT.out; omega⟩, Lib.hid (Below.refl _ _)⟩
 case round =>
   obtain ⟨k, v, r, rfl, rfl, hk, hrs, hr, hE, hBr⟩ := hrel
   have c3 : wr.cell? ⟨w.heap.size, 3, none⟩ = some (.slice p l.len c) := cell_blk ((hBr.out.block _ (lt_blk HE0.out)).trans HE0.out) rfl
   have HEnd := Lib.hid (show v ≤ tot ∧ Below w.heap.size w wr from ⟨by have := hE.out.1; omega, HB1.out.trans (hBr.out.mono (by omega))⟩)
   cases r with
   | nil =>
     simp only [Exs.len] at hk
     have hge : ¬ k < l.len := by omega
     have HEx := Lib.hid (show v ≤ M → tot + 1 ≤ 2 * v by have h := hE.out.2; simp only [Exs.size] at h; exact h)
     go_wp2_with fail
     go_ret
     exact ⟨⟨v, rfl, HEnd.out.1, HEx.out⟩, HEnd.out.2⟩
   | cons y r =>
     obtain ⟨hy, hr'⟩ := hr.out
     simp only [Exs.len] at hk
     have hlt : k < l.len := by omega
     by_cases hv : v ≤ M
     rotate_left
     · have hvi : ¬ (v : Int) ≤ (M : Int) := by omega
       go_wp2_with fail
       go_ret
       exact ⟨⟨v, rfl, HEnd.out.1, fun h => absurd h hv⟩, HEnd.out.2⟩
     have hvi : (v : Int) ≤ (M : Int) := by omega
     rcases hp with h0 | rfl
     · omega
     have hbN : b < N := by have := HB.out; omega
     have hNw1 : N ≤ w1.heap.size := by have := HNN.out; omega
     obtain ⟨q, cq, d0, d1, d2, d3, hok⟩ := (Ex.At.later (hBr.out.mono hNw1) (Nat.le_refl N) y b (o + k * 4) hbN hy).open'
     have HSz := Lib.hid (show y.size + r.size + 1 ≤ l.size ∧ v + (y.size + r.size + 1) ≤ tot ∧ (v ≤ M → tot + 1 ≤ 2 * v + (y.size + r.size + 1)) by have h1 := hrs.out; have h2 := hE.out; simp only [Exs.size] at h1 h2; exact ⟨by omega, h2.1, h2.2⟩)
     have HC := Lib.hid (IH.out y (by have := HT.out; have := HSz.out.1; have := HSz.out.2.1; omega) (by have := HT.out; have := HSz.out.1; have := HSz.out.2.1; omega) q cq N wr hok (Nat.le_trans hNw1 hBr.out.size))
     have HR := Lib.hid hr'
     unfold Ex.val at HC
     clear hy hr' hr hok hE hrs
     go_wp2_with fail
     refine HC.out.mono ?_
     rintro e w2 ⟨⟨u, rfl, hu⟩, hB2⟩
     have HB2 := Lib.hid (hBr.out.trans (hB2.mono hBr.out.size))
     have hw0 : IntKind.i64.wrap ((v : Int) + (u : Int)) = ((v + u : Nat) : Int) := wrapS v u (by have := hu.1; have := HT.out; have := HSz.out.1; have := HSz.out.2.1; omega)
     have HE2 := Lib.hid (show v + u + r.size ≤ tot ∧ (v + u ≤ M → tot + 1 ≤ 2 * (v + u) + r.size) from ⟨by have := HSz.out.2.1; have := hu.1; omega, fun h => by have h1 := HSz.out.2.2 (by omega); have h2 := hu.2 (by omega); omega⟩)
     clear hB2 HC hu
     go_wp2_with fail
     go_roundw
     case rel => exact ⟨k + 1, v + u, r, by go_num, by go_num, by omega, Lib.hid (by have := HSz.out.1; have := HSz.out.2.1; omega), Lib.hid (by rw [show o + (k + 1) * 4 = o + k * 4 + 4 by omega]; exact HR.out), HE2, HB2⟩
     case measure => simp [intOf]; omega
theorem rmy_to (M : Nat) : ∀ n, RMy M n
 | 0 => fun _ h => absurd h (Nat.not_lt_zero _)
 | n + 1 => rmy_step M n (rmy_to M n)
def RMz (M n : Nat) : Prop := ∀ (l : Sts), l.size < n → l.big ≤ 4000000 → ∀ (p : Option Addr) (c N : Nat) (w : World), l.In w N p → N ≤ w.heap.size →
   Calls Tryz.prog 19 #[.slice p l.len c, .int .i64 (M : Int)] w fun z w' => (∃ v : Nat, z = .returned (.int .i64 v) ∧ v ≤ l.big ∧ (v ≤ M → l.big ≤ 2 * v)) ∧ Below w.heap.size w w'
set_option maxRecDepth 100000 in
set_option maxHeartbeats 12800000 in
theorem rmz_step (M n : Nat) (ih : RMz M n) : RMz M (n + 1) := by
 intro l hls hbig p c N w hl hN
 have IH := Lib.hid ih
 clear ih
 obtain ⟨hm, hs⟩ := hl
 obtain ⟨b, o, hp, hb, ha⟩ : ∃ b o, (l.len = 0 ∨ p = some ⟨b, o, none⟩) ∧ (b < N ∨ l.len = 0) ∧ l.At w N b o := by
   rcases hs with h0 | ⟨b, o, hp, hb, ha⟩
   · exact ⟨0, 0, .inl h0, .inr h0, by cases l with | nil => trivial | cons => simp [Sts.len] at h0⟩
   · exact ⟨b, o, .inr hp, .inl hb, ha⟩
 have Hb := Lib.hid hb
 have HNN := Lib.hid hN
 have HL := Lib.hid (show l.size ≤ n ∧ l.big ≤ 4000000 from ⟨by omega, hbig⟩)
 clear hs hb hls hbig
 go_enter Tryz.func19, Tryz.ntmps19
 go_wp2_with fail
 go_loopw [5, 6, 7] (fun d i j wr => ∃ (k v : Nat) (r : Sts), d = .int .i64 v ∧ i = .int .i64 k ∧ k + r.len = l.len ∧ Hid (r.size ≤ l.size ∧ r.big ≤ l.big) ∧ Hid (r.At w N b (o + k * 16)) ∧ Hid (v + r.big ≤ l.big ∧ (v ≤ M → l.big ≤ 2 * v + r.big)) ∧ Hid (Below w.heap.size w wr)) (fun _ i _ _ => l.len - (intOf i).toNat)
 case atStart => exact ⟨0, 0, l, rfl, rfl, by omega, Lib.hid ⟨Nat.le_refl _, Nat.le_refl _⟩, Lib.hid (by rw [Nat.zero_mul]; exact ha), Lib.hid ⟨by omega, fun _ => by omega⟩, Lib.hid (Below.refl _ _)⟩
 case round =>
   obtain ⟨k, v, r, rfl, rfl, hk, hrs, hr, hE, hB⟩ := hrel
   have HEnd := Lib.hid (show v ≤ l.big ∧ Below w.heap.size w wr from ⟨by have := hE.out.1; omega, hB.out⟩)
   cases r with
   | nil =>
     simp only [Sts.len] at hk
     have hge : ¬ k < l.len := by omega
     have HEx := Lib.hid (show v ≤ M → l.big ≤ 2 * v by have h := hE.out.2; simp only [Sts.big] at h; exact h)
     go_wp2_with fail
     go_ret
     exact ⟨⟨v, rfl, HEnd.out.1, HEx.out⟩, HEnd.out.2⟩
   | cons y r =>
     obtain ⟨hy, hr'⟩ := hr.out
     simp only [Sts.len] at hk
     have hlt : k < l.len := by omega
     by_cases hv : v ≤ M
     rotate_left
     · have hvi : ¬ (v : Int) ≤ (M : Int) := by omega
       go_wp2_with fail
       go_ret
       exact ⟨⟨v, rfl, HEnd.out.1, fun h => absurd h hv⟩, HEnd.out.2⟩
     have hvi : (v : Int) ≤ (M : Int) := by omega
     have hrs2 := hrs.out
     have hE2 := hE.out
     simp only [Sts.size, Sts.big] at hrs2 hE2
     have HLo := Lib.hid (show v ≤ M → l.big ≤ 2 * v + (y.big + r.big) from hE2.2)
     replace hE2 := hE2.1
     rcases hp with h0 | rfl
     · omega
     have hbN : b < N := by have := Hb.out; omega
     obtain ⟨wo, rfl⟩ : ∃ wo : World, wo = wr := ⟨_, rfl⟩
     obtain ⟨⟨pn, pe, pa, pg, pb, pl, cn, ce, ca, cg, cb, cl⟩, hcs, hok⟩ := hy.open
     have HCs := Lib.hid (fun (W : World) (hB : Below w.heap.size w W) (j : Nat) (v : Value) (hv : (y.cells ⟨pn, pe, pa, pg, pb, pl, cn, ce, ca, cg, cb, cl⟩)[j]? = some v) => show W.cell? ⟨b, o + k * 16 + j, none⟩ = some v from (hB.cell (p := ⟨b, o + k * 16 + j, none⟩) (Nat.lt_of_lt_of_le hbN HNN.out)).trans (hcs j v hv))
     have hbe := y.big_eq
     have HBe := Lib.hid hbe
     have HSz := Lib.hid (show y.e.size ≤ 4000000 ∧ y.a.size ≤ 4000000 ∧ y.args.size ≤ 4000000 ∧ y.body.big ≤ 4000000 ∧ y.els.big ≤ 4000000 ∧ y.body.size < n ∧ y.els.size < n ∧ r.size ≤ l.size ∧ r.big ≤ l.big by
       have h1 := HL.out
       have h2 : y.size = y.body.size + y.els.size + 1 := by obtain ⟨kd, nm, ns, e, a, as', lo, hi, bd, el⟩ := y; rw [St.size]; rfl
       omega)
     have HLe := Lib.hid (show v + 1 + y.names.length + y.e.size + y.a.size + y.args.size + y.body.big + y.els.big + r.big ≤ l.big ∧ l.big ≤ 4000000 by have := HL.out; omega)
     have HR := Lib.hid hr'
     have HXE := Lib.hid (fun (W : World) (hB : Below w.heap.size w W) => rmy_to M _ y.e (Nat.lt_succ_self _) HSz.out.1 pe ce N W (hok.2.1.later (hB.mono HNN.out) (Nat.le_refl N)) (Nat.le_trans HNN.out hB.size))
     have HXA := Lib.hid (fun (W : World) (hB : Below w.heap.size w W) => rmy_to M _ y.a (Nat.lt_succ_self _) HSz.out.2.1 pa ca N W (hok.2.2.1.later (hB.mono HNN.out) (Nat.le_refl N)) (Nat.le_trans HNN.out hB.size))
     have HOK := Lib.hid hok
     unfold Ex.val at HXE HXA
     have hX : Below w.heap.size w wo.drew := hB.out.drew
     obtain ⟨m1, hm1⟩ : ∃ m1, m1 = v + 1 := ⟨_, rfl⟩
     have hwA : IntKind.i64.wrap ((v : Int) + 1) = ((m1 : Nat) : Int) := by rw [hm1]; have := HLe.out; exact wrapS v 1 (by omega)
     obtain ⟨m2, hm2⟩ : ∃ m2, m2 = m1 + y.names.length := ⟨_, rfl⟩
     have hwB : IntKind.i64.wrap ((m1 : Int) + (y.names.length : Int)) = ((m2 : Nat) : Int) := by rw [hm2]; have := HLe.out; exact wrapS _ _ (by omega)
     have HM := Lib.hid (show m2 = v + 1 + y.names.length by omega)
     clear hy hr' hr hcs hok hbe hrs2 hE2 hE hm1 hm2 hrs
     go_upto_region 5 with fail
     refine wp_region_held_drew (S := fun W => W.cell? ⟨b, o + k * 16 + 2, none⟩ = some (.slice pn y.names.length cn) ∧ W.cell? ⟨b, o + k * 16 + 3, none⟩ = some (.int .i64 y.e.op) ∧ W.cell? ⟨b, o + k * 16 + 4, none⟩ = some (.int .u64 (y.e.word : Int)) ∧ W.cell? ⟨b, o + k * 16 + 5, none⟩ = some (.string (str y.e.name)) ∧ W.cell? ⟨b, o + k * 16 + 6, none⟩ = some (.slice pe y.e.args.len ce) ∧ W.cell? ⟨b, o + k * 16 + 7, none⟩ = some (.int .i64 y.a.op) ∧ W.cell? ⟨b, o + k * 16 + 8, none⟩ = some (.int .u64 (y.a.word : Int)) ∧ W.cell? ⟨b, o + k * 16 + 9, none⟩ = some (.string (str y.a.name)) ∧ W.cell? ⟨b, o + k * 16 + 10, none⟩ = some (.slice pa y.a.args.len ca)) (by kernel_rfl) ?_ (fun hHeld => ?_)
     · exact ⟨HCs.out _ hX 2 _ rfl, HCs.out _ hX 3 _ rfl, HCs.out _ hX 4 _ rfl, HCs.out _ hX 5 _ rfl, HCs.out _ hX 6 _ rfl, HCs.out _ hX 7 _ rfl, HCs.out _ hX 8 _ rfl, HCs.out _ hX 9 _ rfl, HCs.out _ hX 10 _ rfl⟩
     refine tq 0 ?_
     refine tk 1 (.int .i64 ((m1 : Nat) : Int)) rfl (.inl ⟨by rfl, ?_⟩) ?_
     · (intro w hSw; (try dsimp only at hSw); go_simp)
     try simp only [Act.put, List.setIfInBounds_toArray, List.set_cons_zero, List.set_cons_succ]
     refine tq 2 ?_
     refine tq 3 ?_
     refine tq 4 ?_
     refine tq 5 ?_
     refine tq 6 ?_
     refine tq 7 ?_
     refine tk 8 (.int .i64 ((m2 : Nat) : Int)) rfl (.inl ⟨by rfl, ?_⟩) ?_
     · (intro w hSw; (try dsimp only at hSw); go_simp)
     try simp only [Act.put, List.setIfInBounds_toArray, List.set_cons_zero, List.set_cons_succ]
     refine tq 9 ?_
     refine tq 10 ?_
     refine tq 11 ?_
     refine tq 12 ?_
     refine tq 13 ?_
     refine tq 14 ?_
     refine tq 17 ?_
     refine tq 18 ?_
     refine tq 19 ?_
     refine tq 20 ?_
     refine tq 21 ?_
     refine tq 22 ?_
     refine wpAnyH_ready (rs := [15]) (by kernel_rfl) (by simp) ?_
     refine rdy rfl (fun K hK => ?_) AllReadyH.nil
     go_simp
     refine (HXE.out _ hX).mono ?_
     rintro z w5 ⟨⟨u1, rfl, hu1⟩, hB5⟩
     have HU1 := Lib.hid hu1.1
     have HQ1 := Lib.hid hu1.2
     replace hX := hX.trans (hB5.mono hX.size)
     clear hB5 hu1
     refine hK.out _ _ ?_ (fun hHeld => ?_)
     · exact ⟨HCs.out _ hX 2 _ rfl, HCs.out _ hX 3 _ rfl, HCs.out _ hX 4 _ rfl, HCs.out _ hX 5 _ rfl, HCs.out _ hX 6 _ rfl, HCs.out _ hX 7 _ rfl, HCs.out _ hX 8 _ rfl, HCs.out _ hX 9 _ rfl, HCs.out _ hX 10 _ rfl⟩
     clear hK K
     try simp only [Act.put, List.setIfInBounds_toArray, List.set_cons_zero, List.set_cons_succ]
     obtain ⟨m3, hm3⟩ : ∃ m3, m3 = m2 + u1 := ⟨_, rfl⟩
     have HMm3 := Lib.hid hm3
     have hwm3 : IntKind.i64.wrap ((m2 : Int) + (u1 : Int)) = ((m3 : Nat) : Int) := by rw [hm3]; have := HLe.out; have := HM.out; have := HU1.out; exact wrapS _ _ (by omega)
     clear hm3
     refine tk 16 (.int .i64 ((m3 : Nat) : Int)) rfl (.inl ⟨by rfl, ?_⟩) ?_
     · (intro w hSw; (try dsimp only at hSw); go_simp)
     try simp only [Act.put, List.setIfInBounds_toArray, List.set_cons_zero, List.set_cons_succ]
     refine wpAnyH_ready (rs := [23]) (by kernel_rfl) (by simp) ?_
     refine rdy rfl (fun K hK => ?_) AllReadyH.nil
     go_simp
     refine (HXA.out _ hX).mono ?_
     rintro z w6 ⟨⟨u2, rfl, hu2⟩, hB6⟩
     have HU2 := Lib.hid hu2.1
     have HQ2 := Lib.hid hu2.2
     replace hX := hX.trans (hB6.mono hX.size)
     clear hB6 hu2
     refine hK.out _ _ ?_ (fun hHeld => ?_)
     · exact ⟨HCs.out _ hX 2 _ rfl, HCs.out _ hX 3 _ rfl, HCs.out _ hX 4 _ rfl, HCs.out _ hX 5 _ rfl, HCs.out _ hX 6 _ rfl, HCs.out _ hX 7 _ rfl, HCs.out _ hX 8 _ rfl, HCs.out _ hX 9 _ rfl, HCs.out _ hX 10 _ rfl⟩
     clear hK K
     try simp only [Act.put, List.setIfInBounds_toArray, List.set_cons_zero, List.set_cons_succ]
     obtain ⟨m4, hm4⟩ : ∃ m4, m4 = m3 + u2 := ⟨_, rfl⟩
     have HMm4 := Lib.hid hm4
     have hwm4 : IntKind.i64.wrap ((m3 : Int) + (u2 : Int)) = ((m4 : Nat) : Int) := by rw [hm4]; have := HLe.out; have := HM.out; have := HU1.out; have := HU2.out; have := HMm3.out; exact wrapS _ _ (by omega)
     clear hm4
     refine tk 24 (.int .i64 ((m4 : Nat) : Int)) rfl (.inl ⟨by rfl, ?_⟩) ?_
     · (intro w hSw; (try dsimp only at hSw); go_simp)
     try simp only [Act.put, List.setIfInBounds_toArray, List.set_cons_zero, List.set_cons_succ]
     refine tq 25 ?_
     refine wpAnyH_done (by kernel_rfl) ?_ _
     have HB3 := Lib.hid hX
     have HV3 := Lib.hid (show m4 ≤ v + 1 + y.names.length + y.e.size + y.a.size by have := HM.out; have := HMm3.out; have := HMm4.out; have := HU1.out; have := HU2.out; omega)
     have HW3 := Lib.hid (show v ≤ m4 ∧ (m4 ≤ M → 2 * v + 1 + y.names.length + y.e.size + y.a.size ≤ 2 * m4) from ⟨by have := HM.out; have := HMm3.out; have := HMm4.out; omega, fun h => by have := HM.out; have := HMm3.out; have := HMm4.out; have := HQ1.out (by omega); have := HQ2.out (by omega); omega⟩)
     have c11 : w6.cell? ⟨b, o + k * 16 + 11, none⟩ = some (.slice pg y.args.len cg) := HCs.out _ hX 11 _ rfl
     have hgm := HOK.out.2.2.2.1.1
     obtain ⟨b', o', hp', hb', ha'⟩ : ∃ b' o', (y.args.len = 0 ∨ pg = some ⟨b', o', none⟩) ∧ (b' < N ∨ y.args.len = 0) ∧ y.args.At w N b' o' := by
       rcases HOK.out.2.2.2.1.2 with h0 | ⟨b, o, hp, hb, ha⟩
       · exact ⟨0, 0, .inl h0, .inr h0, by cases hxa : y.args with | nil => trivial | cons => rw [hxa] at h0; simp [Exs.len] at h0⟩
       · exact ⟨b, o, .inr hp, .inl hb, ha⟩
     have Hb' := Lib.hid hb'
     have HXG := Lib.hid (fun (x : Ex) (p : Option Addr) (c : Nat) (W : World) (hB : Below w.heap.size w W) (hx : x.size ≤ 4000000) (hok : x.Ok W N p) => rmy_to M _ x (Nat.lt_succ_self _) hx p c N W hok (Nat.le_trans HNN.out hB.size))
     clear hb' HXE HXA hX hwA hwB hwm3 hwm4
     go_wp2_with fail
     clear c11
     go_loopw [5, 7] (fun d j wx => ∃ (k2 v4 : Nat) (r2 : Exs), d = .int .i64 v4 ∧ j = .int .i64 k2 ∧ k2 + r2.len = y.args.len ∧ Hid (r2.size ≤ y.args.size) ∧ Hid (r2.At w N b' (o' + k2 * 4)) ∧ Hid (v4 + r2.size ≤ m4 + y.args.size ∧ m4 ≤ v4 ∧ (v4 ≤ M → 2 * m4 + y.args.size ≤ 2 * v4 + r2.size)) ∧ Hid (Below w.heap.size w wx)) (fun _ j _ => y.args.len - (intOf j).toNat)
     case atStart => exact ⟨0, m4, y.args, rfl, rfl, by omega, Lib.hid (Nat.le_refl _), Lib.hid (by rw [Nat.zero_mul]; exact ha'), Lib.hid ⟨Nat.le_refl _, Nat.le_refl _, fun _ => Nat.le_refl _⟩, HB3⟩
     case round =>
       obtain ⟨k2, v4, r2, rfl, rfl, hk2, hrs3, hr2, hE3, hB4⟩ := hrel
       have c11r : wr.cell? ⟨b, o + k * 16 + 11, none⟩ = some (.slice pg y.args.len cg) := HCs.out _ hB4.out 11 _ rfl
       cases r2 with
       | nil =>
         simp only [Exs.len] at hk2
         have hge2 : ¬ k2 < y.args.len := by omega
         have HV4 := Lib.hid (show v4 ≤ m4 + y.args.size by have := hE3.out.1; omega)
         have HW4 := Lib.hid (show m4 ≤ v4 ∧ (v4 ≤ M → 2 * m4 + y.args.size ≤ 2 * v4) from ⟨hE3.out.2.1, fun h => by have h2 := hE3.out.2.2 h; simp only [Exs.size] at h2; exact h2⟩)
         have hX : Below w.heap.size w wr.drew := hB4.out.drew
         have HBd := Lib.hid (fun (W : World) (hB : Below w.heap.size w W) => IH.out y.body HSz.out.2.2.2.2.2.1 HSz.out.2.2.2.1 pb cb N W (HOK.out.2.2.2.2.1.later (hB.mono HNN.out) (Nat.le_refl N)) (Nat.le_trans HNN.out hB.size))
         have HEl := Lib.hid (fun (W : World) (hB : Below w.heap.size w W) => IH.out y.els HSz.out.2.2.2.2.2.2.1 HSz.out.2.2.2.2.1 pl cl N W (HOK.out.2.2.2.2.2.1.later (hB.mono HNN.out) (Nat.le_refl N)) (Nat.le_trans HNN.out hB.size))
         clear hE3 hr2
         go_upto_region 10 with fail
         refine wp_region_held_drew (S := fun W => W.cell? ⟨b, o + k * 16 + 14, none⟩ = some (.slice pb y.body.len cb) ∧ W.cell? ⟨b, o + k * 16 + 15, none⟩ = some (.slice pl y.els.len cl)) (by kernel_rfl) ?_ (fun hHeld => ?_)
         · exact ⟨HCs.out _ hX 14 _ rfl, HCs.out _ hX 15 _ rfl⟩
         refine tq 0 ?_
         refine tq 1 ?_
         refine tq 2 ?_
         refine tq 3 ?_
         refine tq 4 ?_
         refine tq 5 ?_
         refine tq 6 ?_
         refine tq 9 ?_
         refine tq 10 ?_
         refine tq 11 ?_
         refine tq 12 ?_
         refine tq 13 ?_
         refine tq 14 ?_
         refine wpAnyH_ready (rs := [7]) (by kernel_rfl) (by simp) ?_
         refine rdy rfl (fun K hK => ?_) AllReadyH.nil
         go_simp
         refine (HBd.out _ hX).mono ?_
         rintro z w5 ⟨⟨u3, rfl, hu3⟩, hB5⟩
         have HU3 := Lib.hid hu3.1
         have HQ3 := Lib.hid hu3.2
         replace hX := hX.trans (hB5.mono hX.size)
         clear hB5 hu3
         refine hK.out _ _ ?_ (fun hHeld => ?_)
         · exact ⟨HCs.out _ hX 14 _ rfl, HCs.out _ hX 15 _ rfl⟩
         clear hK K
         try simp only [Act.put, List.setIfInBounds_toArray, List.set_cons_zero, List.set_cons_succ]
         obtain ⟨m5, hm5⟩ : ∃ m5, m5 = v4 + u3 := ⟨_, rfl⟩
         have HMm5 := Lib.hid hm5
         have hwm5 : IntKind.i64.wrap ((v4 : Int) + (u3 : Int)) = ((m5 : Nat) : Int) := by rw [hm5]; have := HLe.out; have := HM.out; have := HU3.out; have := HV4.out; have := HV3.out; exact wrapS _ _ (by omega)
         clear hm5
         refine tk 8 (.int .i64 ((m5 : Nat) : Int)) rfl (.inl ⟨by rfl, ?_⟩) ?_
         · (intro w hSw; (try dsimp only at hSw); go_simp)
         try simp only [Act.put, List.setIfInBounds_toArray, List.set_cons_zero, List.set_cons_succ]
         refine wpAnyH_ready (rs := [15]) (by kernel_rfl) (by simp) ?_
         refine rdy rfl (fun K hK => ?_) AllReadyH.nil
         go_simp
         refine (HEl.out _ hX).mono ?_
         rintro z w6 ⟨⟨u4, rfl, hu4⟩, hB6⟩
         have HU4 := Lib.hid hu4.1
         have HQ4 := Lib.hid hu4.2
         replace hX := hX.trans (hB6.mono hX.size)
         clear hB6 hu4
         refine hK.out _ _ ?_ (fun hHeld => ?_)
         · exact ⟨HCs.out _ hX 14 _ rfl, HCs.out _ hX 15 _ rfl⟩
         clear hK K
         try simp only [Act.put, List.setIfInBounds_toArray, List.set_cons_zero, List.set_cons_succ]
         obtain ⟨m6, hm6⟩ : ∃ m6, m6 = m5 + u4 := ⟨_, rfl⟩
         have HMm6 := Lib.hid hm6
         have hwm6 : IntKind.i64.wrap ((m5 : Int) + (u4 : Int)) = ((m6 : Nat) : Int) := by rw [hm6]; have := HLe.out; have := HM.out; have := HU3.out; have := HU4.out; have := HV4.out; have := HV3.out; have := HMm5.out; exact wrapS _ _ (by omega)
         clear hm6
         refine tk 16 (.int .i64 ((m6 : Nat) : Int)) rfl (.inl ⟨by rfl, ?_⟩) ?_
         · (intro w hSw; (try dsimp only at hSw); go_simp)
         try simp only [Act.put, List.setIfInBounds_toArray, List.set_cons_zero, List.set_cons_succ]
         refine tq 17 ?_
         refine wpAnyH_done (by kernel_rfl) ?_ _
         have HX := Lib.hid hX
         clear hX
         go_wp2_with fail
         go_roundw
         case rel => exact ⟨k + 1, m6, r, by go_num, by go_num, by omega, Lib.hid ⟨HSz.out.2.2.2.2.2.2.2.1, HSz.out.2.2.2.2.2.2.2.2⟩, Lib.hid (by rw [show o + (k + 1) * 16 = o + k * 16 + 16 by omega]; exact HR.out), Lib.hid ⟨by have := HLe.out; have := HM.out; have := HMm5.out; have := HMm6.out; have := HU3.out; have := HU4.out; have := HV4.out; have := HV3.out; omega, fun h => by have := HMm5.out; have := HMm6.out; have := HW3.out.1; have := HW4.out.1; have := HLo.out (by omega); have := HBe.out; have := HQ3.out (by omega); have := HQ4.out (by omega); have := HW3.out.2 (by omega); have := HW4.out.2 (by omega); omega⟩, HX⟩
         case measure => simp [intOf]; omega
       | cons e2 r2 =>
         obtain ⟨he, hr3⟩ := hr2.out
         simp only [Exs.len] at hk2
         have hlt2 : k2 < y.args.len := by omega
         rcases hp' with h0 | rfl
         · omega
         have hbN' : b' < N := by have := Hb'.out; omega
         obtain ⟨q, cq, d0, d1', d2, d3, hok2⟩ := (Ex.At.later (hB4.out.mono HNN.out) (Nat.le_refl N) e2 b' (o' + k2 * 4) hbN' he).open'
         have HRr := Lib.hid hr3
         have HS3 := Lib.hid (show e2.size ≤ 4000000 ∧ r2.size ≤ y.args.size ∧ v4 + (e2.size + r2.size + 1) ≤ m4 + y.args.size by have h := hrs3.out; have h2 := hE3.out.1; simp only [Exs.size] at h h2; have := HSz.out; omega)
         have HS4 := Lib.hid (show m4 ≤ v4 ∧ (v4 ≤ M → 2 * m4 + y.args.size ≤ 2 * v4 + (e2.size + r2.size + 1)) by have h2 := hE3.out.2; simp only [Exs.size] at h2; exact h2)
         have HC := Lib.hid (HXG.out e2 q cq wr hB4.out HS3.out.1 hok2)
         unfold Ex.val at HC
         clear he hr3 hr2 hok2 hE3 hrs3
         go_wp2_with fail
         refine HC.out.mono ?_
         rintro z w7 ⟨⟨u, rfl, hu⟩, hB7⟩
         have HB7 := Lib.hid (hB4.out.trans (hB7.mono hB4.out.size))
         have hw2 : IntKind.i64.wrap ((v4 : Int) + (u : Int)) = ((v4 + u : Nat) : Int) := wrapS _ _ (by have := hu.1; have := HS3.out; have := HV3.out; have := HLe.out; omega)
         have HE5 := Lib.hid (show v4 + u + r2.size ≤ m4 + y.args.size ∧ m4 ≤ v4 + u ∧ (v4 + u ≤ M → 2 * m4 + y.args.size ≤ 2 * (v4 + u) + r2.size) from ⟨by have := HS3.out; have := hu.1; omega, by have := HS4.out.1; omega, fun h => by have h1 := HS4.out.2 (by omega); have h2 := hu.2 (by omega); omega⟩)
         clear hB7 hu HC d0 d1' d2 d3 c11r
         go_wp2_with fail
         go_roundw
         case rel => exact ⟨k2 + 1, v4 + u, r2, by go_num, by go_num, by omega, Lib.hid HS3.out.2.1, Lib.hid (by rw [show o' + (k2 + 1) * 4 = o' + k2 * 4 + 4 by omega]; exact HRr.out), HE5, HB7⟩
         case measure => simp [intOf]; omega
theorem rmz_to (M : Nat) : ∀ n, RMz M n
 | 0 => fun _ h => absurd h (Nat.not_lt_zero _)
 | n + 1 => rmz_step M n (rmz_to M n)
def bsum : List Fnc → Nat
 | [] => 0
 | f :: r => f.body.big + bsum r
set_option maxRecDepth 100000 in
set_option maxHeartbeats 6400000 in
theorem small2_any (M : Nat) (x : Prg) (s : PrgP) (N : Nat) (w : World) (h : x.Ok w N s.p s.q) (hN : N ≤ w.heap.size) (hbig : fnsBig x.fns ≤ 4000000) :
   Calls Tryz.prog 6 #[x.v s, .int .i64 (M : Int)] w fun z w' => (∃ b : Bool, z = .returned (.bool b) ∧ (b = true → bsum x.fns ≤ 2 * M)) ∧ Below w.heap.size w w' := by
 obtain ⟨p, q, c, d⟩ := s
 obtain ⟨w1, hw1, k0, hB1, hz1⟩ := one_alloc w (.cells #[.slice p x.regs.length c, .slice q x.fns.length d] 25)
 have hm := h.1.1
 have hm' := h.2.1
 have HP := Lib.hid (fun (W : World) (hB : Below w1.heap.size w1 W) => show W.cell? ⟨w.heap.size, 0, none⟩ = some (.slice p x.regs.length c) ∧ W.cell? ⟨w.heap.size, 1, none⟩ = some (.slice q x.fns.length d) from
   ⟨cell_blk ((hB.block _ (lt_blk k0)).trans k0) rfl, cell_blk ((hB.block _ (lt_blk k0)).trans k0) rfl⟩)
 have HU := Lib.hid (fun (W : World) (hB : Below w1.heap.size w1 W) => show Below w.heap.size w W from hB1.trans (hB.mono (by omega)))
 obtain ⟨b', o', hq, hb', ha'⟩ := Row.start h.2
 have HFn := Lib.hid (fun (W : World) (ds r : List Fnc) (y : Fnc) (hB : Below w.heap.size w W) (hE : x.fns = ds ++ y :: r) => show ∃ sg : FncP, q = some ⟨b', o', none⟩ ∧ W.cell? ⟨b', o' + ds.length * 5 + 1, none⟩ = some (.slice sg.pp y.params.length sg.cp) ∧ W.cell? ⟨b', o' + ds.length * 5 + 2, none⟩ = some (.slice sg.pv y.vars.length sg.cv) ∧ W.cell? ⟨b', o' + ds.length * 5 + 3, none⟩ = some (.slice sg.pr y.rets.length sg.cr) ∧ W.cell? ⟨b', o' + ds.length * 5 + 4, none⟩ = some (.slice sg.pb y.body.len sg.cb) ∧ y.Ok W N sg from by
   have hlt : ds.length < x.fns.length := by rw [hE]; simp
   obtain ⟨sg, e0, e1, e2, e3, e4, hok⟩ := Fnc.At.all (Row.get (i := ds.length) (x := y) ha' (by rw [hE]; simp))
   have hbw : b' < w.heap.size := by omega
   refine ⟨sg, ?_, (hB.cell (p := ⟨b', _, none⟩) hbw).trans e1, (hB.cell (p := ⟨b', _, none⟩) hbw).trans e2, (hB.cell (p := ⟨b', _, none⟩) hbw).trans e3, (hB.cell (p := ⟨b', _, none⟩) hbw).trans e4, hok.later (hB.mono hN) (Nat.le_refl N)⟩
   rcases hq with h0 | h0
   · omega
   · exact h0)
 have HBg := Lib.hid (fun (f : Fnc) (hf : f ∈ x.fns) => show f.params.length ≤ 4000000 ∧ f.vars.length ≤ 4000000 ∧ f.rets.length ≤ 4000000 ∧ f.body.big ≤ 4000000 by have := fnsBig_mem x.fns f hf; omega)
 have HNN := Lib.hid (And.intro hN hbig)
 have HB0 := Lib.hid (Below.refl w1.heap.size w1)
 have HE0 := Lib.hid (HU.out _ HB0.out)
 obtain ⟨p0, p1⟩ := HP.out _ HB0.out
 unfold Prg.v
 clear k0 hB1 hz1 h hq hb' ha' hN hbig
 go_enter Tryz.func6, Tryz.ntmps6
 by_cases a1 : 40 < x.fns.length
 · have f1 : decide ((40 : Int) < ((x.fns.length : Nat) : Int)) = true := decide_eq_true (by omega)
   go_wp2_with fail
   go_ret
   exact ⟨⟨_, rfl, fun h => (by cases h)⟩, HE0.out⟩
 have f1 : decide ((40 : Int) < ((x.fns.length : Nat) : Int)) = false := decide_eq_false (by omega)
 by_cases a2 : 20 < x.regs.length
 · have f2 : decide ((20 : Int) < ((x.regs.length : Nat) : Int)) = true := decide_eq_true (by omega)
   go_wp2_with fail
   go_ret
   exact ⟨⟨_, rfl, fun h => (by cases h)⟩, HE0.out⟩
 have f2 : decide ((20 : Int) < ((x.regs.length : Nat) : Int)) = false := decide_eq_false (by omega)
 go_wp2_with fail
 clear f1 f2 a1 a2 p0 p1
 go_loopw [5, 6] (fun n i wr => ∃ (v : Nat) (ds r : List Fnc), n = .int .i64 v ∧ i = .int .i64 ds.length ∧ ds.length + r.length = x.fns.length ∧ Hid (x.fns = ds ++ r) ∧ Hid (v + fnsBig r ≤ fnsBig x.fns ∧ (v ≤ M → bsum x.fns ≤ 2 * v + bsum r)) ∧ Hid (Below w1.heap.size w1 wr)) (fun _ i _ => x.fns.length - (intOf i).toNat)
 case atStart => exact ⟨0, [], x.fns, rfl, rfl, by simp, Lib.hid rfl, Lib.hid ⟨by omega, fun _ => by omega⟩, HB0⟩
 case round =>
   obtain ⟨v, ds, r, rfl, rfl, hk, hds, hE, hB⟩ := hrel
   obtain ⟨p0, p1⟩ := HP.out _ hB.out
   cases r with
   | nil =>
     simp only [List.length_nil] at hk
     have hge : ¬ ds.length < x.fns.length := by omega
     have HEn := Lib.hid (HU.out _ hB.out)
     have HBs := Lib.hid (show v ≤ M → bsum x.fns ≤ 2 * M from fun h => by have h2 := hE.out.2 h; simp only [bsum] at h2; omega)
     go_wp2_with fail
     go_ret
     exact ⟨⟨_, rfl, fun h => HBs.out (by simpa using h)⟩, HEn.out⟩
   | cons y r =>
     simp only [List.length_cons] at hk
     have hlt : ds.length < x.fns.length := by omega
     obtain ⟨sg, hq, e1, e2, e3, e4, hok⟩ := HFn.out _ ds r y (HU.out _ hB.out) hds.out
     cases hq
     obtain ⟨hb1, hb2, hb3, hb4⟩ := HBg.out y (by rw [hds.out]; simp)
     have hX : Below wr.heap.size wr wr.drew := (Below.refl _ _).drew
     have HX0 := Lib.hid (fun (W : World) (hB' : Below wr.heap.size wr W) => show Below w1.heap.size w1 W from hB.out.trans (hB'.mono hB.out.size))
     have HC := Lib.hid (fun (W : World) (hB' : Below wr.heap.size wr W) => show W.cell? ⟨b', o' + ds.length * 5 + 1, none⟩ = some (.slice sg.pp y.params.length sg.cp) ∧ W.cell? ⟨b', o' + ds.length * 5 + 2, none⟩ = some (.slice sg.pv y.vars.length sg.cv) ∧ W.cell? ⟨b', o' + ds.length * 5 + 3, none⟩ = some (.slice sg.pr y.rets.length sg.cr) from
       have hbw : b' < wr.heap.size := World.block_lt_of_cell? _ _ e1
       ⟨(hB'.cell (p := ⟨b', _, none⟩) hbw).trans e1, (hB'.cell (p := ⟨b', _, none⟩) hbw).trans e2, (hB'.cell (p := ⟨b', _, none⟩) hbw).trans e3⟩)
     have HE4 := Lib.hid (fun (W : World) (hB' : Below wr.heap.size wr W) => show W.cell? ⟨b', o' + ds.length * 5 + 4, none⟩ = some (.slice sg.pb y.body.len sg.cb) from (hB'.cell (p := ⟨b', _, none⟩) (World.block_lt_of_cell? _ _ e4)).trans e4)
     have HMu := Lib.hid (fun (W : World) (hB' : Below wr.heap.size wr W) => rmz_to M _ y.body (Nat.lt_succ_self _) hb4 sg.pb sg.cb N W (hok.2.2.2.later (hB'.mono (Nat.le_trans HNN.out.1 (HU.out _ hB.out).size)) (Nat.le_refl N)) (Nat.le_trans (Nat.le_trans HNN.out.1 (HU.out _ hB.out).size) hB'.size))
     have HSz := Lib.hid (show v + y.body.big + fnsBig r ≤ fnsBig x.fns by have h := hE.out.1; rw [fnsBig] at h; omega)
     have HSy := Lib.hid (show v ≤ M → bsum x.fns ≤ 2 * v + (y.body.big + bsum r) from fun h => by have h2 := hE.out.2 h; simp only [bsum] at h2; exact h2)
     obtain ⟨m1, hm1⟩ : ∃ m1, m1 = y.params.length + y.vars.length := ⟨_, rfl⟩
     have hwA : IntKind.i64.wrap ((y.params.length : Int) + (y.vars.length : Int)) = ((m1 : Nat) : Int) := by rw [hm1]; exact wrapS _ _ (by omega)
     obtain ⟨m2, hm2⟩ : ∃ m2, m2 = m1 + y.rets.length := ⟨_, rfl⟩
     have hwB : IntKind.i64.wrap ((m1 : Int) + (y.rets.length : Int)) = ((m2 : Nat) : Int) := by rw [hm2]; exact wrapS _ _ (by omega)
     clear hok hE e1 e2 e3 e4 hm1 hm2
     go_upto_region 7 with fail
     clear p0 p1
     refine wp_region_held_drew (S := fun W => W.cell? ⟨w.heap.size, 1, none⟩ = some (.slice (some ⟨b', o', none⟩) x.fns.length d) ∧ W.cell? ⟨b', o' + ds.length * 5 + 1, none⟩ = some (.slice sg.pp y.params.length sg.cp) ∧ W.cell? ⟨b', o' + ds.length * 5 + 2, none⟩ = some (.slice sg.pv y.vars.length sg.cv) ∧ W.cell? ⟨b', o' + ds.length * 5 + 3, none⟩ = some (.slice sg.pr y.rets.length sg.cr)) (by kernel_rfl) ?_ (fun hHeld => ?_)
     · exact ⟨(HP.out _ (HX0.out _ hX)).2, HC.out _ hX⟩
     refine tq 0 ?_
     refine tq 1 ?_
     refine tq 2 ?_
     refine tq 3 ?_
     refine tq 4 ?_
     refine tq 5 ?_
     refine tq 6 ?_
     refine tq 7 ?_
     refine tq 8 ?_
     refine tq 9 ?_
     refine tq 10 ?_
     refine tq 11 ?_
     refine tq 12 ?_
     refine tq 13 ?_
     refine tk 14 (.int .i64 ((m1 : Nat) : Int)) rfl (.inl ⟨by rfl, ?_⟩) ?_
     · (intro w hSw; (try dsimp only at hSw); go_simp)
     try simp only [Act.put, List.setIfInBounds_toArray, List.set_cons_zero, List.set_cons_succ]
     refine tq 15 ?_
     refine tq 16 ?_
     refine tq 17 ?_
     refine tq 18 ?_
     refine tq 19 ?_
     refine tq 20 ?_
     refine tq 21 ?_
     refine tk 22 (.int .i64 ((m2 : Nat) : Int)) rfl (.inl ⟨by rfl, ?_⟩) ?_
     · (intro w hSw; (try dsimp only at hSw); go_simp)
     try simp only [Act.put, List.setIfInBounds_toArray, List.set_cons_zero, List.set_cons_succ]
     refine tk 23 (.bool (decide ((200 : Int) < ((m2 : Nat) : Int)))) rfl (.inl ⟨by rfl, ?_⟩) ?_
     · (intro w hSw; (try dsimp only at hSw); go_simp)
     try simp only [Act.put, List.setIfInBounds_toArray, List.set_cons_zero, List.set_cons_succ]
     refine wpAnyH_done (by kernel_rfl) ?_ _
     have HX := Lib.hid hX
     have HEn := Lib.hid (HU.out _ (HX0.out _ hX))
     have HMu1 := Lib.hid (HMu.out _ hX)
     obtain ⟨p0, p1⟩ := HP.out _ (HX0.out _ hX)
     have e4 := HE4.out _ hX
     clear hX hwA hwB
     cases f3 : decide ((200 : Int) < ((m2 : Nat) : Int))
     rotate_left
     · go_wp2_with fail
       go_ret
       refine ⟨?_, HEn.out⟩
       first | exact ⟨_, rfl⟩ | exact .inl rfl | exact .inr rfl
     go_wp2_with fail
     refine HMu1.out.mono ?_
     rintro z w5 ⟨⟨u, rfl, hu⟩, hB5⟩
     have HB5 := Lib.hid (HX0.out _ (HX.out.trans (hB5.mono HX.out.size)))
     have hw2 : IntKind.i64.wrap ((v : Int) + (u : Int)) = ((v + u : Nat) : Int) := wrapS _ _ (by have := hu.1; have := HSz.out; have := HNN.out; omega)
     have HE5 := Lib.hid (show v + u + fnsBig r ≤ fnsBig x.fns ∧ (v + u ≤ M → bsum x.fns ≤ 2 * (v + u) + bsum r) from ⟨by have := HSz.out; have := hu.1; omega, fun h => by have h1 := HSy.out (by omega); have h2 := hu.2 (by omega); omega⟩)
     clear hB5 hu HMu1 p0 p1 e4 f3
     go_wp2_with fail
     go_roundw
     case rel => exact ⟨v + u, ds ++ [y], r, by go_num, by rw [List.length_append]; go_num, by simp; omega, Lib.hid (by rw [hds.out]; simp), HE5, HB5⟩
     case measure => simp [intOf]; omega
end Go.Proofs.YtihmibggonffdaaGreat
