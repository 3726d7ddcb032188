/- A copy in new memory: statements, all of them. -/
import Derived.Test.YtnghehcjklkoeaaPJ
namespace Go.Proofs.Ytnghehcjklkoeaa
open Go.RowKit

theorem st_cells (x : St) (s : StP) : ∀ u ∈ x.cells s, u.oneCell' = true := by
  intro u hu
  simp only [St.cells, List.mem_toArray, List.mem_cons, List.not_mem_nil, or_false] at hu
  rcases hu with rfl | rfl | rfl | rfl | rfl | rfl | rfl | rfl | rfl | rfl | rfl | rfl | rfl | rfl | rfl | rfl <;> rfl
set_option maxRecDepth 100000 in
set_option maxHeartbeats 3200000 in
theorem cps_step (n : Nat) (ih : CpS n) : CpS (n + 1) := by
  intro l hsz hbig p c N w h hN
  have IH := Lib.hid ih
  have HNN := Lib.hid (And.intro hN (And.intro hsz hbig))
  obtain ⟨hm, hs⟩ := h
  obtain ⟨b, o, hp, ha⟩ : ∃ b o, (l.len = 0 ∨ p = some ⟨b, o, none⟩) ∧ l.At w N b o := by
    rcases hs with h0 | ⟨b, o, hp, hb, ha⟩
    · exact ⟨0, 0, .inl h0, by cases l with | nil => trivial | cons => simp [Sts.len] at h0⟩
    · exact ⟨b, o, .inr hp, ha⟩
  obtain ⟨news, n1, n2, n3, n4⟩ := stK.news (At := St.At w N) (fun x b o h => h.open) st_cells l.toL b o (Sts.row l o ha)
  rw [← Sts.toL_len] at n1
  have HFr := Lib.hid (freshSt_any p l.len c news w ⟨n1, by rcases hp with h0 | h0; (· exact .inl h0); (· exact .inr ⟨b, o, h0, n3⟩)⟩ n2 (Nat.le_trans (Sts.big_len l) hbig))
  have HN4 := Lib.hid n4
  have HL := Lib.hid (Sts.toL_len l)
  have HSz := Lib.hid (fun (x : St) (hx : x ∈ l.toL) => show (x.body.size < n ∧ x.els.size < n) ∧ x.big ≤ 1048576 from by
    have h1 := Sts.toL_size hx
    have h2 := Sts.toL_big hx
    have h3 : x.body.size + x.els.size + 1 = x.size := by obtain ⟨kd, nm, ns, e, a, g, lo, hi, bd, el⟩ := x; rfl
    omega)
  clear ih hN hsz hbig hs hp ha n1 n2 n3 n4
  go_enter Try.func27, Try.ntmps27
  go_wp2_with fail
  refine HFr.out.mono ?_
  rintro z w1 ⟨v, rfl, hown, hB⟩
  rcases hown.2 with ⟨rfl, h0⟩ | ⟨g, cap, cur, rfl, hg, hk, hnc, hcp, hcs, ht⟩
  · have HE := Lib.hid (And.intro hB h0)
    clear hown hB HFr
    have h0i : ¬ (0 : Int) < 0 := by omega
    go_wp2_with fail
    go_loopw [6, 11] (fun s6 i wr => i = .int .i64 0 ∧ wr = w1) (fun _ _ _ => 0)
    case atStart => exact ⟨rfl, rfl⟩
    case round =>
      obtain ⟨rfl, rfl⟩ := hrel
      go_wp2_with fail
      go_ret
      exact ⟨none, 0, by rw [HE.out.2]; rfl, HE.out.1, fun _ => false, ⟨by rw [HE.out.2]; exact Nat.zero_le _, .inl HE.out.2⟩, (fun _ h => (by cases h)), (fun _ h => (by cases h))⟩
  · have HG := Lib.hid (show g < w1.heap.size ∧ (∀ o, w1.frozen? ⟨g, o, none⟩ = false) from ⟨lt_blk hk, fun o => by simp [World.frozen?, hk]⟩)
    have HP0 := Lib.hid (HN4.out w1 g 0 fun j u hu => by
      rw [Nat.zero_add]
      rw [← ht, List.getElem?_take] at hu
      split at hu
      · exact cell_blk hk (by rw [← Array.getElem?_toList]; exact hu)
      · cases hu)
    have HB := Lib.hid hB
    have HGw := Lib.hid (And.intro hg hnc)
    clear hown hB hk hcs ht HFr hg HN4 hnc
    go_wp2_with fail
    go_loopw [6, 11] (fun s6 i wr => ∃ (ds rs : List St) (S : Nat → Bool), i = .int .i64 ds.length ∧ ds.length + rs.length = l.len ∧ Hid (l.toL = ds ++ rs) ∧ Hid (Row (stK.Done wr S wr.heap.size) 16 ds g 0) ∧ Hid (Row (stK.Pend wr w N) 16 rs g (ds.length * 16)) ∧ Hid (Below w.heap.size w wr ∧ g < wr.heap.size ∧ (∀ o, wr.frozen? ⟨g, o, none⟩ = false) ∧ Wr S wr.heap.size wr ∧ ∀ k, S k = true → g < k)) (fun _ i _ => l.len - (intOf i).toNat)
    case atStart => exact ⟨[], l.toL, fun _ => false, rfl, by have := HL.out; simp; omega, Lib.hid rfl, Lib.hid trivial, Lib.hid HP0.out, Lib.hid ⟨HB.out, HG.out.1, HG.out.2, (fun _ h => (by cases h)), (fun _ h => (by cases h))⟩⟩
    case round =>
      obtain ⟨ds, rs, S, rfl, hk, hE, hD, hPd, hX⟩ := hrel
      obtain ⟨wp, rfl⟩ : ∃ wp : World, wp = wr := ⟨_, rfl⟩
      cases rs with
      | nil =>
        simp only [List.length_nil] at hk
        have hge : ¬ ds.length < l.len := by omega
        have HEnd := Lib.hid (show ∃ q d, Value.slice (some ⟨g, 0, none⟩) l.len cap = .slice q l.len d ∧ Below w.heap.size w wp ∧ New w wp fun v N => l.In v N q from
          ⟨_, _, rfl, hX.out.1, fun k => S k || k == g, ⟨hm, .inr ⟨g, 0, rfl, hX.out.2.1, done_sts (S := S) (by simp) (fun k hk => by simp [hk]) l 0 (by rw [hE.out, List.append_nil]; exact hD.out)⟩⟩, fun b hb => by
            simp only [Bool.or_eq_true, beq_iff_eq] at hb
            rcases hb with hb | rfl
            · exact hX.out.2.2.2.1 b hb
            · exact ⟨hX.out.2.1, hX.out.2.2.1⟩, fun k hk => by
            simp only [Bool.or_eq_true, beq_iff_eq] at hk
            have := HGw.out.1
            rcases hk with hk | rfl
            · have := hX.out.2.2.2.2 k hk; omega
            · omega⟩)
        clear hD hPd hE
        go_wp2_with fail
        go_ret
        obtain ⟨q, d, h1, h2⟩ := HEnd.out
        exact ⟨q, d, by rw [← h1]; rfl, h2⟩
      | cons y rs =>
        simp only [List.length_cons] at hk
        have hlt : ds.length < l.len := by omega
        obtain ⟨⟨s, hs, hok⟩, _⟩ := hPd.out
        have hys := HSz.out y (by rw [hE.out]; simp)
        have hg1 := HGw.out.1
        have hNw := HNN.out.1
        have HC := Lib.hid (renewS_of n IH.out y hys.1 hys.2 s N g (ds.length * 16) wp (St.Ok.later hok (hX.out.1.mono hNw) (Nat.le_refl N)) (by omega) hX.out.2.1 hs hX.out.2.2.1)
        have HBl := Lib.hid (fun (W : World) (hB : Bt g wp W) => show Below w.heap.size w W from hX.out.1.trans (hB.below (by omega) hX.out.1.size))
        clear hok hys hs hg1 hNw
        go_wp2_with fail
        refine HC.out.mono ?_
        rintro z w2 ⟨rfl, hBt, hout, S1, hD1, hW1, hS1⟩
        have HI := Lib.hid (Knd.step (K := stK) hD.out hPd.out hX.out.2.1 hX.out.2.2.1 hX.out.2.2.2.1 hX.out.2.2.2.2 hBt hout hD1 hW1 hS1)
        have HBB := Lib.hid (HBl.out w2 hBt)
        clear hBt hout hD1 hW1 hS1 HC
        go_wp2_with fail
        go_roundw
        case rel => exact ⟨ds ++ [y], rs, fun k => S k || S1 k, by rw [List.length_append]; go_num, by simp; omega, Lib.hid (by rw [hE.out]; simp), Lib.hid HI.out.1, Lib.hid HI.out.2.1, Lib.hid ⟨HBB.out, HI.out.2.2⟩⟩
        case measure => simp [intOf]; omega
theorem cps_to : ∀ n, CpS n
  | 0 => fun _ h => absurd h (Nat.not_lt_zero _)
  | n + 1 => cps_step n (cps_to n)
end Go.Proofs.Ytnghehcjklkoeaa
