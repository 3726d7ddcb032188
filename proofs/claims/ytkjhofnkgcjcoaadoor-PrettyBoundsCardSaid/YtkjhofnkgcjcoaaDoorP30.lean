/- What a statement has besides is nothing: the program's isZeroStmt. -/
import Derived.Test.YtkjhofnkgcjcoaaDoorP25
namespace Go.Proofs.YtkjhofnkgcjcoaaDoor
open Go.RowKit

set_option maxRecDepth 100000 in
set_option maxHeartbeats 6400000 in
theorem isZeroSt_any (x : St) (hk : x.kind = 0) (s : StP) (N : Nat) (w : World) (hN : N ≤ w.heap.size) (hx : x.Ok w N s) :
    Calls Tryd.prog 85 #[x.val s] w fun e w' => e = .returned (.bool x.isZero) ∧ Below w.heap.size w w' := by
  obtain ⟨A1, hA1⟩ : ∃ A1, x.cells s = A1 := ⟨_, rfl⟩
  obtain ⟨W1, hW1⟩ : ∃ W1, w.alloc (Obj.cells A1 35) = W1 := ⟨_, rfl⟩
  have hB1 : Below w.heap.size w W1 := by rw [← hW1]; exact (Below.refl _ w).alloc (Nat.le_refl _) _
  have hX : ∀ j z, (x.cells s)[j]? = some z → W1.cell? ⟨w.heap.size, j, none⟩ = some z := fun j z hz => by rw [← hW1]; exact cell_block (heap_alloc_new w _) (by rw [← hA1]; exact hz)
  have HB := Lib.hid hB1
  have ok := hx.later (hB1.mono hN) (Nat.le_refl N)
  unfold St.val
  rw [hA1]
  obtain ⟨kd, nm, ns, e, a, g, lo, hi, bd, el⟩ := x
  obtain rfl : kd = 0 := hk
  have HZe := Lib.hid (isZero_any e w.heap.size 3 N W1 (exAt_ofOk ok.2.1 (hX 3 _ rfl) (hX 4 _ rfl) (hX 5 _ rfl) (hX 6 _ rfl)))
  have HZa := Lib.hid (isZero_any a w.heap.size 7 N W1 (exAt_ofOk ok.2.2.1 (hX 7 _ rfl) (hX 8 _ rfl) (hX 9 _ rfl) (hX 10 _ rfl)))
  have c0 : W1.cell? ⟨w.heap.size, 0, none⟩ = some (.int .i64 0) := hX 0 _ rfl
  have c1 : W1.cell? ⟨w.heap.size, 1, none⟩ = some (.string (str nm)) := hX 1 _ rfl
  have c2 : W1.cell? ⟨w.heap.size, 2, none⟩ = some (.slice s.pn ns.length s.cn) := hX 2 _ rfl
  have c11 : W1.cell? ⟨w.heap.size, 11, none⟩ = some (.slice s.pg g.len s.cg) := hX 11 _ rfl
  have c12 : W1.cell? ⟨w.heap.size, 12, none⟩ = some (.int .u64 (lo : Int)) := hX 12 _ rfl
  have c13 : W1.cell? ⟨w.heap.size, 13, none⟩ = some (.int .u64 (hi : Int)) := hX 13 _ rfl
  have c14 : W1.cell? ⟨w.heap.size, 14, none⟩ = some (.slice s.pb bd.len s.cb) := hX 14 _ rfl
  have c15 : W1.cell? ⟨w.heap.size, 15, none⟩ = some (.slice s.pl el.len s.cl) := hX 15 _ rfl
  have hm2 := ok.1.2.1
  have hm11 := ok.2.2.2.1.1
  have hm14 := ok.2.2.2.2.1.1
  have hm15 := ok.2.2.2.2.2.1.1
  unfold St.isZero
  simp only []
  have es : (str nm).toList.isEmpty = nm.isEmpty := by rw [Lib.toList_data, str_data]
  clear ok hX hx hB1 hN hA1
  generalize ns.length = n2 at *
  generalize g.len = n11 at *
  generalize bd.len = n14 at *
  generalize el.len = n15 at *
  generalize e.none = ze at *
  generalize a.none = za at *
  go_enter Tryd.func85, Tryd.ntmps85
  cases hn : nm.isEmpty with
  | false =>
    rw [hn] at es
    have e0 : ¬ (str nm).toList = [] := by intro h; rw [h] at es; cases es
    go_wp2_with fail
    go_ret
    exact ⟨by simp, HB.out⟩
  | true =>
    rw [hn] at es
    have e0 : (str nm).toList = [] := by simpa using es
    by_cases hn2 : n2 = 0
    · subst hn2
      cases ze with
      | false =>
        go_wp2_with fail
        refine (HZe.out).mono ?_
        rintro z w2 ⟨rfl, rfl⟩
        go_wp2_with fail
        go_ret
        exact ⟨by simp, HB.out⟩
      | true =>
        cases za with
        | false =>
          go_wp2_with fail
          refine (HZe.out).mono ?_
          rintro z w2 ⟨rfl, rfl⟩
          go_wp2_with fail
          refine (HZa.out).mono ?_
          rintro z w2 ⟨rfl, rfl⟩
          go_wp2_with fail
          go_ret
          exact ⟨by simp, HB.out⟩
        | true =>
          by_cases hn11 : n11 = 0
          · subst hn11
            by_cases hlo : lo = 0
            · subst hlo
              by_cases hhi : hi = 0
              · subst hhi
                by_cases hn14 : n14 = 0
                · subst hn14
                  by_cases hn15 : n15 = 0
                  · subst hn15
                    go_wp2_with fail
                    refine (HZe.out).mono ?_
                    rintro z w2 ⟨rfl, rfl⟩
                    go_wp2_with fail
                    refine (HZa.out).mono ?_
                    rintro z w2 ⟨rfl, rfl⟩
                    go_wp2_with fail
                    go_ret
                    exact ⟨by simp, HB.out⟩
                  · have fn15 : ((n15 : Int) == 0) = false := by simp; omega
                    go_wp2_with fail
                    refine (HZe.out).mono ?_
                    rintro z w2 ⟨rfl, rfl⟩
                    go_wp2_with fail
                    refine (HZa.out).mono ?_
                    rintro z w2 ⟨rfl, rfl⟩
                    go_wp2_with fail
                    go_ret
                    exact ⟨by simp, HB.out⟩
                · have fn14 : ((n14 : Int) == 0) = false := by simp; omega
                  go_wp2_with fail
                  refine (HZe.out).mono ?_
                  rintro z w2 ⟨rfl, rfl⟩
                  go_wp2_with fail
                  refine (HZa.out).mono ?_
                  rintro z w2 ⟨rfl, rfl⟩
                  go_wp2_with fail
                  go_ret
                  exact ⟨by simp, HB.out⟩
              · have fhi : ((hi : Int) == 0) = false := by simp; omega
                go_wp2_with fail
                refine (HZe.out).mono ?_
                rintro z w2 ⟨rfl, rfl⟩
                go_wp2_with fail
                refine (HZa.out).mono ?_
                rintro z w2 ⟨rfl, rfl⟩
                go_wp2_with fail
                go_ret
                exact ⟨by simp, HB.out⟩
            · have flo : ((lo : Int) == 0) = false := by simp; omega
              go_wp2_with fail
              refine (HZe.out).mono ?_
              rintro z w2 ⟨rfl, rfl⟩
              go_wp2_with fail
              refine (HZa.out).mono ?_
              rintro z w2 ⟨rfl, rfl⟩
              go_wp2_with fail
              go_ret
              exact ⟨by simp, HB.out⟩
          · have fn11 : ((n11 : Int) == 0) = false := by simp; omega
            go_wp2_with fail
            refine (HZe.out).mono ?_
            rintro z w2 ⟨rfl, rfl⟩
            go_wp2_with fail
            refine (HZa.out).mono ?_
            rintro z w2 ⟨rfl, rfl⟩
            go_wp2_with fail
            go_ret
            exact ⟨by simp, HB.out⟩
    · have fn2 : ((n2 : Int) == 0) = false := by simp; omega
      go_wp2_with fail
      go_ret
      exact ⟨by simp [hn2], HB.out⟩
end Go.Proofs.YtkjhofnkgcjcoaaDoor
