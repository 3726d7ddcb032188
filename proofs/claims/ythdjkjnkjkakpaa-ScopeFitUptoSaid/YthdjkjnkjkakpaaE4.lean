/- How many expressions a statement has: the walk. -/
import Derived.Test.YthdjkjnkjkakpaaE3
import Derived.Laws.EntriesVeiled
namespace Go.Proofs.Ythdjkjnkjkakpaa
open Go.RowKit

theorem three (w : World) (o0 o1 o2 : Obj) : ∃ W, ((w.alloc o0).alloc o1).alloc o2 = W ∧ W.heap[w.heap.size]? = some o0 ∧ W.heap[w.heap.size + 1]? = some o1 ∧ W.heap[w.heap.size + 1 + 1]? = some o2 ∧ Below w.heap.size w W ∧ W.heap.size = w.heap.size + 3 := by
  refine ⟨_, rfl, ?_, ?_, ?_, (((Below.refl _ w).alloc (Nat.le_refl _) _).alloc (by simp) _).alloc (by simp; omega) _, by simp⟩
  · rw [Below.heap_alloc _ _ _ (by simp; omega), Below.heap_alloc _ _ _ (by simp)]; exact heap_alloc_new w o0
  · rw [Below.heap_alloc _ _ _ (by simp)]; have := heap_alloc_new (w.alloc o0) o1; simpa using this
  · have := heap_alloc_new ((w.alloc o0).alloc o1) o2; simpa using this
set_option maxHeartbeats 6400000 in
theorem eachExpr_any (x : St) (deep : Nat) (hd : deep ≤ 64) (N b o : Nat) (w : World) (n g : Nat) (hx : x.At w N b o) (hb : b < N) (hN : N ≤ w.heap.size) (hg : N ≤ g) (hC : Ct w g n) (hn : n ≤ 65536) :
    Calls Try.prog 77 #[.pointer (some ⟨b, o, none⟩), .int .i64 (deep : Int), ctFn g] w (Cnt g n (x.own deep) w) := by
  obtain ⟨W0, hW0, k0, k1, k2, hB0, hz0⟩ := three w (.cells #[.int .i64 (deep : Int)] 3) (.cells #[ctFn g] 1) (.cells #[wnFn (w.heap.size + 1) (w.heap.size + 1 + 1)] 121)
  have hgw : g < w.heap.size := lt_blk hC
  have hO : On W0 g (w.heap.size + 1) (w.heap.size + 1 + 1) w.heap.size deep := ⟨⟨k1, k2, by omega, by omega⟩, k0, by omega⟩
  have HO := Lib.hid hO
  have HX := Lib.hid hx
  have HW0 := Lib.hid hW0
  have HB0 := Lib.hid (But.of_below (g := g) hB0)
  have HN0 := Lib.hid (show N ≤ W0.heap.size by omega)
  have hO0 := ownE_any x.a deep hd N b (o + 7) W0 n g _ _ _ (St.At.a (St.At.later (hB0.mono hN) (Nat.le_refl N) x b o hb hx)) hb (by omega) hg hO (hC.later hB0) hn
  have HA := Lib.hid hO0
  have HS := Lib.hid (fun (W : World) (hB : But g w W) => St.At.later (hB.old hg hN) (Nat.le_refl N) x b o hb hx)
  have HE := Lib.hid (fun (W : World) (v : Nat) (hB : But g W0 W) (hC : Ct W g v) (hv : v ≤ 65536) (h : x.e.At W N b (o + 3)) => ownE_any x.e deep hd N b (o + 3) W v g _ _ _ h hb (Nat.le_trans HN0.out hB.size) hg (HO.out.but hB) hC hv)
  unfold ctFn wnFn at HW0
  unfold ctFn
  clear hW0 k0 k1 k2 hB0 hz0 hO hO0 hx hC
  go_enter Try.func77, Try.ntmps77
  go_wp2_with fail
  rw [HW0.out]
  refine HA.out.mono ?_
  intro z w1 hc
  rcases hc with ⟨h1, h2, h3⟩ | ⟨h1, h2, h3⟩
  rotate_left
  · have hR := Lib.hid (show Cnt g n (x.own deep) w (Pn 13) w1 from .no (by unfold St.own; omega) h2 (HB0.out.trans h3))
    unfold Pn at hR ⊢
    clear h1 h2 h3
    go_wp2_with fail
    exact ⟨rfl, hR.out⟩
  have HE1 := Lib.hid (HE.out w1 _ h3 h2 h1 (St.At.e (HS.out w1 (HB0.out.trans h3))))
  have HB1 := Lib.hid h3
  clear h1 h2 h3
  go_wp2_with fail
  refine HE1.out.mono ?_
  intro z w2 hc
  rcases hc with ⟨h1, h2, h3⟩ | ⟨h1, h2, h3⟩
  rotate_left
  · have hR := Lib.hid (show Cnt g n (x.own deep) w (Pn 13) w2 from .no (by unfold St.own; omega) h2 (HB0.out.trans (HB1.out.trans h3)))
    unfold Pn at hR ⊢
    clear h1 h2 h3
    go_wp2_with fail
    exact ⟨rfl, hR.out⟩
  have HB2 := Lib.hid (HB1.out.trans h3)
  have HC2 := Lib.hid h2
  obtain ⟨v0, hv0⟩ : ∃ v0, n + x.a.oc deep + x.e.oc deep = v0 := ⟨_, rfl⟩
  rw [hv0] at h1 HC2
  have HT := Lib.hid (show v0 + x.args.oc deep = n + x.own deep by unfold St.own; omega)
  clear hv0 h2 h3
  obtain ⟨⟨pn, pe, pa, pg, pb, pl, cn, ce, ca, cg, cb, cl⟩, hcs, hok⟩ := (HS.out w2 (HB0.out.trans HB2.out)).open
  have c11 : w2.cell? ⟨b, o + 11, none⟩ = some (.slice pg x.args.len cg) := hcs 11 _ rfl
  have hIn := hok.2.2.2.1
  obtain ⟨hm, hs⟩ := hIn
  obtain ⟨b', o', hp, hb', ha⟩ : ∃ b' o', (x.args.len = 0 ∨ pg = some ⟨b', o', none⟩) ∧ (b' < N ∨ x.args.len = 0) ∧ x.args.At w2 N b' o' := by
    rcases hs with h0 | ⟨b', o', hp, hb', ha⟩
    · exact ⟨0, 0, .inl h0, .inr h0, by cases hxa : x.args with | nil => trivial | cons => rw [hxa] at h0; simp [Exs.len] at h0⟩
    · exact ⟨b', o', .inr hp, .inl hb', ha⟩
  have Hb' := Lib.hid hb'
  have HN2 := Lib.hid (Nat.le_trans HN0.out HB2.out.size)
  have HC11 := Lib.hid (fun (W : World) (hB : But g w2 W) => ((hB.old hg HN2.out).cell (p := ⟨b, o + 11, none⟩) hb).trans c11)
  have HEl := Lib.hid (fun (W : World) (v : Nat) (y : Ex) (oo : Nat) (hB : But g w2 W) (hC : Ct W g v) (hv : v ≤ 65536) (hbb : b' < N) (h : y.At w2 N b' oo) => ownE_any y deep hd N b' oo W v g _ _ _ (Ex.At.later (hB.old hg HN2.out) (Nat.le_refl N) y b' oo hbb h) hbb (Nat.le_trans HN2.out hB.size) hg (HO.out.but (HB2.out.trans hB)) hC hv)
  clear hcs hok hs hb' HE HA HE1 HB1 HS
  go_wp2_with fail
  go_loopw [26] (fun i wr => ∃ (k v : Nat) (r : Exs), i = .int .i64 k ∧ k + r.len = x.args.len ∧ v ≤ 65536 ∧ Hid (r.At w2 N b' (o' + k * 4)) ∧ Hid (Ct wr g v ∧ But g w2 wr) ∧ Hid (v + r.oc deep = n + x.own deep)) (fun i _ => x.args.len - (intOf i).toNat)
  case atStart => exact ⟨0, v0, x.args, rfl, by omega, h1, Lib.hid (by rw [Nat.zero_mul]; exact ha), Lib.hid ⟨HC2.out, But.refl _ _⟩, HT⟩
  case round =>
    obtain ⟨k, v, r, rfl, hk, hv, hr, hCB, hE⟩ := hrel
    have c11r := HC11.out wr hCB.out.2
    clear c11
    cases r with
    | nil =>
      simp only [Exs.len] at hk
      have hge : ¬ k < x.args.len := by omega
      have hR := Lib.hid (show Cnt g n (x.own deep) w (.returned (.tuple #[])) wr by
        have h := hE.out
        rw [Exs.oc, Nat.add_zero] at h
        subst h
        exact .ok hv hCB.out.1 (HB0.out.trans (HB2.out.trans hCB.out.2)))
      go_wp2_with fail
      go_end0
      exact hR.out
    | cons y r =>
      obtain ⟨hy, hr'⟩ := hr.out
      simp only [Exs.len] at hk
      have hlt : k < x.args.len := by omega
      rcases hp with h0 | rfl
      · omega
      have hEy := hE.out
      rw [Exs.oc] at hEy
      have HEy := Lib.hid hEy
      have HR := Lib.hid hr'
      have HCl := Lib.hid (HEl.out wr v y _ hCB.out.2 hCB.out.1 hv (by have := Hb'.out; omega) hy)
      clear hy hr' hr hEy hE
      go_wp2_with fail
      refine HCl.out.mono ?_
      intro z w3 hc
      rcases hc with ⟨h1, h2, h3⟩ | ⟨h1, h2, h3⟩
      rotate_left
      · have hR := Lib.hid (show Cnt g n (x.own deep) w (Pn 13) w3 from .no (by have := HEy.out; omega) h2 (HB0.out.trans (HB2.out.trans (hCB.out.2.trans h3))))
        unfold Pn at hR ⊢
        clear h1 h2 h3
        go_wp2_with fail
        exact ⟨rfl, hR.out⟩
      have HX3 := Lib.hid (And.intro h2 (hCB.out.2.trans h3))
      clear h2 h3
      go_wp2_with fail
      go_roundw
      case rel => exact ⟨k + 1, v + y.oc deep, r, by go_num, by omega, h1, Lib.hid (by rw [show o' + (k + 1) * 4 = o' + k * 4 + 4 by omega]; exact HR.out), HX3, Lib.hid (by have := HEy.out; omega)⟩
      case measure => simp [intOf]; omega
end Go.Proofs.Ythdjkjnkjkakpaa
