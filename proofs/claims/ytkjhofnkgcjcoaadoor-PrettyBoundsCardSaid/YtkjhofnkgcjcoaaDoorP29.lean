/- The lines of any statements, as an iterator hands them on. -/
import Derived.Test.YtkjhofnkgcjcoaaDoorP28
namespace Go.Proofs.YtkjhofnkgcjcoaaDoor
open Go.RowKit
attribute [local go_sem] Oper.semAt_some

theorem stmtLines_any (p : Option Addr) (n c : Nat) (w : World) : Calls Tryd.prog 48 #[.slice p n c] w fun e w' => ∃ bx, e = .returned (.func (.func 73) #[] #[.pointer (some ⟨bx, 0, none⟩)]) ∧ w'.heap[bx]? = some (.cells #[.slice p n c] 33 (0, 0)) ∧ w.heap.size ≤ bx ∧ Below w.heap.size w w' := by
  go_enter Tryd.func48, Tryd.ntmps48
  go_wp2_with fail
  go_ret
  exact ⟨_, rfl, heap_alloc_new w _, Nat.le_refl _, (Below.refl _ w).alloc (Nat.le_refl _) _⟩
theorem shn_all {ph : World → World} {l M N qy qt qs m : Nat} {w0 : World} {L : List (Nat × List UInt8)} {J Jx : Nat → World → Prop} (E : ShEnv ph l M N qy qt qs m w0 L J Jx) : ∀ n, ShN qy qt qs w0 L J Jx n
  | 0 => fun _ h => by omega
  | n + 1 => shn_step E n (shn_all E n)
theorem buf_teller (c : Array Value) (fr : Nat × Nat) : ¬ isBuf (.cells c 58 fr) := by intro h; rcases h with h | h <;> exact absurd h (by decide)
theorem buf_show (c : Array Value) (fr : Nat × Nat) : ¬ isBuf (.cells c 132 fr) := by intro h; rcases h with h | h <;> exact absurd h (by decide)
theorem newTeller_new (w : World) : Calls Tryd.prog 16 #[] w fun e w' => ∃ m, e = .returned (.agg #[.map (some m)]) ∧ w'.heap[m]? = some (fmap signT) ∧ w.heap.size ≤ m ∧ Below w.heap.size w w' := by
  have HC := Lib.hid (signs_any (w.alloc (.cells #[.map none] 58)))
  go_enter Tryd.func16, Tryd.ntmps16
  go_wp2_with fail
  refine HC.out.mono ?_
  rintro e w2 ⟨m, rfl, hmp, hmb, hB2⟩
  have hg : w2.heap[w.heap.size]? = some (.cells #[.map none] 58 (0, 0)) := (hB2.block _ (by simp)).trans (heap_alloc_new w _)
  have c0 := cell_of_one hg
  have z0 := free_of_one hg
  have HM := Lib.hid (And.intro hmp hmb)
  have HB := Lib.hid (((Below.refl _ w).alloc (Nat.le_refl _) (.cells #[.map none] 58)).trans (hB2.mono (by simp)))
  clear hmp hmb hB2 hg
  go_wp2_with fail
  have hc := World.cell?_setCell_same w2 ⟨w.heap.size, 0, none⟩ (.map (some m)) c0
  refine bodyPost_ret (v := .agg #[.map (some m)]) (by simp [results, Tryd.results16, go_sem, hc]) rfl ⟨m, rfl, ?_, ?_, HB.out.setCell (Nat.le_refl _) _⟩
  · rw [Below.heap_setCell _ _ _ _ (by have := HM.out.2; simp at this; show m ≠ w.heap.size; omega)]
    exact HM.out.1
  · have := HM.out.2; simp at this; omega

set_option maxRecDepth 100000 in
set_option maxHeartbeats 3200000 in
theorem stmtLines1_gen (ph : World → World) (hlf : ∀ A, LeW (ph A) A) (hzf : ∀ A, (ph A).heap.size = A.heap.size) (ls : Sts) (p : Option Addr) (c bx n : Nat) (w0 wx : World) (hmay : ls.may = true) (hd : ls.deep ≤ 900) (hlen : ∀ y ∈ ls.lines 0, y.2.length ≤ 1000000) (hin : ls.In w0 w0.heap.size p)
    (hx : wx.heap[bx]? = some (.cells #[.slice p ls.len c] 33 (0, 0))) :
    SeqOwn (fun A => Below w0.heap.size w0 (ph A) ∧ Glob A) Fence.wide n Tryd.prog 73 #[.pointer (some ⟨bx, 0, none⟩)] encL (ls.lines 0) wx := by
  intro l J Jx W hW hJ hJx hG hY h0
  refine callsIn_wide.2 ?_
  have hbz := Nat.lt_of_lt_of_le (lt_of_block hx) hW.size
  have HX := Lib.hid ((hW.block _ (lt_of_block hx)).trans hx)
  have HT := Lib.hid (newTeller_new (W.alloc (.cells #[.func (.yield l) #[] #[]] 94)))
  have HJ := Lib.hid hJ
  have HY := Lib.hid (fun k x W1 hx hj => jj_of (hY k x W1 hx hj))
  have HG := Lib.hid hG
  have HJ0 := Lib.hid h0
  clear hJ hJx hG hY h0 hx hW
  show Calls Tryd.prog 73 #[.func (.yield l) #[] #[], .pointer (some ⟨bx, 0, none⟩)] W _
  go_enter Tryd.func73, Tryd.ntmps73
  go_wp2_with fail
  refine HT.out.mono ?_
  rintro e w2 ⟨m, rfl, hmp, hmW, hB2⟩
  have hzW : (W.alloc (.cells #[.func (.yield l) #[] #[]] 94)).heap.size = W.heap.size + 1 := by simp
  have HB2 := Lib.hid (((Below.refl _ W).alloc (Nat.le_refl _) _).trans (hB2.mono (by simp)))
  have hky : w2.heap[W.heap.size]? = some (.cells #[.func (.yield l) #[] #[]] 94 (0, 0)) := (hB2.block _ (by simp)).trans (heap_alloc_new W _)
  have cx := cell_of_one ((HB2.out.block bx hbz).trans HX.out)
  have hbz2 : bx < w2.heap.size := Nat.lt_of_lt_of_le hbz HB2.out.size
  have HK := Lib.hid (And.intro hky (And.intro hmp hmW))
  clear hB2 hky hmp hmW
  have cv : ((w2.alloc (.cells #[.map (some m)] 58)).alloc (.cells #[.nilFunc] 132)).cell? ⟨w2.heap.size + 1, 0, none⟩ = some .nilFunc := World.cell?_alloc2_new _ _ _ _
  have fv : ((w2.alloc (.cells #[.map (some m)] 58)).alloc (.cells #[.nilFunc] 132)).frozen? ⟨w2.heap.size + 1, 0, none⟩ = false := World.frozen?_alloc2_new _ _ _ _
  go_wp2_with fail
  obtain ⟨w3, hw3⟩ : ∃ w3, (w2.alloc (.cells #[.map (some m)] 58)).alloc (.cells #[.func (.func 74) #[] #[.pointer (some ⟨W.heap.size, 0, none⟩), .pointer (some ⟨w2.heap.size, 0, none⟩), .pointer (some ⟨w2.heap.size + 1, 0, none⟩)]] 132) = w3 := ⟨_, rfl⟩
  have kt : w3.heap[w2.heap.size]? = some (.cells #[.map (some m)] 58 (0, 0)) := by rw [← hw3, Below.heap_alloc _ _ _ (by simp)]; exact heap_alloc_new w2 _
  have ks : w3.heap[w2.heap.size + 1]? = some (.cells #[.func (.func 74) #[] #[.pointer (some ⟨W.heap.size, 0, none⟩), .pointer (some ⟨w2.heap.size, 0, none⟩), .pointer (some ⟨w2.heap.size + 1, 0, none⟩)]] 132 (0, 0)) := by
    rw [← hw3]; have := heap_alloc_new (w2.alloc (.cells #[.map (some m)] 58)) (.cells #[.func (.func 74) #[] #[.pointer (some ⟨W.heap.size, 0, none⟩), .pointer (some ⟨w2.heap.size, 0, none⟩), .pointer (some ⟨w2.heap.size + 1, 0, none⟩)]] 132); simpa using this
  have hB3 : Below w2.heap.size w2 w3 := by rw [← hw3]; exact ((Below.refl _ w2).alloc (Nat.le_refl _) _).alloc (by simp) _
  have hz3 : w3.heap.size = w2.heap.size + 2 := by rw [← hw3]; simp
  have hmz : m < w2.heap.size := lt_of_block HK.out.2.1
  have hmW : W.heap.size ≤ m := by have := HK.out.2.2; omega
  have hzz : W.heap.size < w2.heap.size := lt_of_block HK.out.1
  have ky := (hB3.block _ hzz).trans HK.out.1
  have km := (hB3.block _ hmz).trans HK.out.2.1
  rw [hw3]
  clear hw3
  have E : ShEnv ph l (n - 1) (w2.heap.size + 2) W.heap.size w2.heap.size (w2.heap.size + 1) m w0 (ls.lines 0) (fun k A => J k A ∧ ShC l W.heap.size w2.heap.size (w2.heap.size + 1) m A ∧ w2.heap.size + 2 ≤ A.heap.size) Jx :=
    { gl := fun k A h => (HG.out k A h.1).2
      lf := hlf
      zf := hzf
      mv := fun k A B h hAB => ⟨HJ.out k A B h.1 (hAB.mono (by omega)), ⟨(hAB.bel.block _ (by omega)).trans h.2.1.ky, (hAB.bel.block _ (by omega)).trans h.2.1.kt, (hAB.bel.block _ (by omega)).trans h.2.1.ks, (hAB.bel.block _ (by omega)).trans h.2.1.km⟩, Nat.le_trans h.2.2 hAB.bel.size⟩
      bel := fun k A h => (HG.out k A h.1).1
      hn := fun k A h => h.2.2
      cl := fun k A h => h.2.1
      yl := fun k x W1 hx hj => by
        obtain ⟨fn, tmps, assign, body, hy, hR⟩ := HY.out k x W1 hx hj.1
        refine ⟨fn, tmps, assign, body, hy, hR.mono ?_⟩
        rintro e w ⟨v, rfl, hjj, hU⟩
        refine ⟨v, rfl, ?_⟩
        rcases hjj with ⟨rfl, h⟩ | ⟨rfl, h⟩
        · exact .inl ⟨rfl, h, ⟨hU.same _ _ hj.2.1.ky (by omega) (buf_fn _ _), hU.same _ _ hj.2.1.kt (by omega) (buf_teller _ _), hU.same _ _ hj.2.1.ks (by omega) (buf_show _ _), hU.same _ _ hj.2.1.km hmW (fun h => h)⟩, Nat.le_trans hj.2.2 hU.size⟩
        · exact .inr ⟨rfl, h⟩ }
  have HC := shn_all E (ls.size + 1) ls (Nat.lt_succ_self _) 0 0 p c w3 hmay (by omega) hlen hin (Seg.all _) ⟨HJ.out 0 W w3 HJ0.out (Rn.of_below (HB2.out.trans (hB3.mono HB2.out.size)) (Nat.le_refl _)), ⟨ky, kt, ks, km⟩, by omega⟩
  rw [Nat.zero_add, show ((0 : Nat) : Int) = 0 from rfl] at HC
  refine HC.mono ?_
  rintro e w4 ⟨v, rfl, hs⟩
  have HS := Lib.hid hs
  clear E HC hs kt ks ky km hB3 hz3
  go_wp2_with fail
  go_end0
  refine ⟨⟨_, rfl⟩, ?_⟩
  rcases HS.out with ⟨_, h⟩ | ⟨_, h⟩
  · exact .inl h.1
  · exact .inr h
theorem SeqOwn.mono {α : Type} {G G' : World → Prop} {F : Fence} {n : Nat} {P : Program} {g : Nat} {lb : Array Value} {encs : α → Array Value} {xs : List α} {w : World} (h : SeqOwn G F n P g lb encs xs w) (hG : ∀ A, G' A → G A) : SeqOwn G' F n P g lb encs xs w :=
  fun l J Jx W h1 h2 h3 h4 h5 h6 => h l J Jx W h1 h2 h3 (fun k A hj => hG A (h4 k A hj)) h5 h6
theorem stmtLines1_all (ls : Sts) (p : Option Addr) (c bx n : Nat) (w0 wx : World) (hmay : ls.may = true) (hd : ls.deep ≤ 900) (hlen : ∀ y ∈ ls.lines 0, y.2.length ≤ 1000000) (hin : ls.In w0 w0.heap.size p) (hG0 : Glob w0)
    (hx : wx.heap[bx]? = some (.cells #[.slice p ls.len c] 33 (0, 0))) :
    SeqOwn (fun A => Below w0.heap.size w0 A) Fence.wide n Tryd.prog 73 #[.pointer (some ⟨bx, 0, none⟩)] encL (ls.lines 0) wx :=
  (stmtLines1_gen id (fun _ _ _ _ h => h) (fun _ => rfl) ls p c bx n w0 wx hmay hd hlen hin hx).mono fun _ h => ⟨h, hG0.later h⟩
end Go.Proofs.YtkjhofnkgcjcoaaDoor
