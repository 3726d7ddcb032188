/- H1, H2 as one. -/
import Derived.Test.YtnghehcjklkoeaaG1
import Derived.Lib.AppendZeros
import Derived.Laws.AppendOwnNone
/- Variables, one list behind the other. -/
namespace Go.Proofs.Ytnghehcjklkoeaa
open Go.RowKit

theorem add_of (b o j : Nat) : (⟨b, o, none⟩ : Addr).add j = ⟨b, o + j, none⟩ := by unfold Addr.add; split <;> simp_all
theorem run_append_empty {P : Program} {w : World} (base : Nat) (t ty e : TypeId) (i : TypeInfo) (size : Nat) (ht : P.underlying t = some (.slice e)) (hi : P.info? e = some i)
    (v : Value) (n : Nat) (xs : List Value) (hown : w.ownsRow base e size v n xs) (p : Option Addr) (c : Nat) :
    (Builtin.append_ #[t, t] ty #[v, .slice p 0 c]).run P w = .ok v w := by
  rcases hown.2 with ⟨rfl, rfl⟩ | ⟨g, cap, cur, rfl, _, _, hnc, _⟩ <;> cases p
  · simp [Builtin.append_, run_underlying ht, sizeOf, typeInfo, hi, Builtin.lenOf, Builtin.firstCells]
  · simp [Builtin.append_, run_underlying ht, sizeOf, typeInfo, hi, Builtin.lenOf, Builtin.firstCells, loadCells, loadCellsFrom]
  · simp [Builtin.append_, run_underlying ht, sizeOf, typeInfo, hi, Builtin.lenOf, Builtin.firstCells, hnc, storeCells]
  · simp [Builtin.append_, run_underlying ht, sizeOf, typeInfo, hi, Builtin.lenOf, Builtin.firstCells, hnc, storeCells, loadCells, loadCellsFrom]
/-- a slice's cells, as append reads them -/
def Src (w : World) (size : Nat) (p : Option Addr) (m : Nat) (news : List Value) : Prop :=
  news.length = m * size ∧ (m = 0 ∨ ∃ b o, p = some ⟨b, o, none⟩ ∧ ∀ j u, news[j]? = some u → w.cell? ⟨b, o + j, none⟩ = some u)
theorem wpList_append_src {P : Program} {w : World} {ops : Array Oper} {rest : List Oper} {o : Oper} {a : Act} {Q : Exit → Act → World → Prop} (hgd : o.guard = none) (s x : Operand) (t : TypeId)
    (ho : o.op = .call { callee := .builtin .append, args := #[s, x], argTypes := #[t, t] })
    (base : Nat) (e : TypeId) (i : TypeInfo) (z : Value) (size bytes : Nat) (ht : P.underlying t = some (.slice e)) (hi : P.info? e = some i) (hz : i.zero = some z)
    (hsize : i.size = size) (hby : i.bytes = bytes) (hzs : z.cells.size = size) (hsz : 0 < size)
    (v : Value) (n : Nat) (xs : List Value) (hs : a.eval s = v) (hown : w.ownsRow base e size v n xs)
    (p : Option Addr) (m c : Nat) (news : List Value) (hx : a.eval x = .slice p m c) (hsrc : Src w size p m news) (h1 : ∀ u ∈ news, u.oneCell' = true)
    (h63 : n + m ≤ maxLen) (hbytes : (n + m) * bytes ≤ 140737488355328) (hbase : base ≤ w.heap.size)
    (h : ∀ v' w', w'.ownsRow base e size v' (n + m) (xs ++ news) → w.grownBy w' v.ownBlock → wpList P ops Q rest (a.put o.dst v') w') : wpList P ops Q (o :: rest) a w := by
  obtain ⟨hl, rfl | ⟨b', o', rfl, hc⟩⟩ := hsrc
  · have : news = [] := List.eq_nil_of_length_eq_zero (by simpa using hl)
    subst this
    have hrun := run_append_empty (P := P) (w := w) base t o.type e i size ht hi v n xs hown p c
    exact Lib.wpList_append_run w hgd s x t t ho _ _ hs hx _ _ hrun (h v w (by simpa using hown) (World.grownBy.refl w _))
  · exact wpList_append_own w hgd s x t ho base e i z size bytes ht hi hz hsize hby hzs hsz v n xs hs hown _ m c news hx hl (fun j u hu => by rw [add_of]; exact hc j u hu) h1 h63 hbytes hbase fun v' w' h2 h3 _ => h v' w' h2 h3
def Vr.cells (v : Vr) : List Value := [.string (str v.name), .int .i64 v.kind, .int .i64 v.size, .bool v.secret]
def vrCells (l : List Vr) : List Value := l.flatMap Vr.cells
theorem vr_len : ∀ l : List Vr, (vrCells l).length = l.length * 4
  | [] => rfl
  | x :: l => by have := vr_len l; unfold vrCells at this ⊢; simp [Vr.cells, this]; omega
theorem vr_one : ∀ (l : List Vr), ∀ u ∈ vrCells l, u.oneCell' = true
  | [], u, h => by cases h
  | x :: l, u, h => by
    simp only [vrCells, List.flatMap_cons, Vr.cells, List.mem_append, List.mem_cons, List.not_mem_nil, or_false] at h
    rcases h with (rfl | rfl | rfl | rfl) | h
    · rfl
    · rfl
    · rfl
    · rfl
    · exact vr_one l u h
theorem vr_list {w : World} : ∀ (l : List Vr) (b o : Nat), Row (Vr.At w) 4 l b o → ∀ j u, (vrCells l)[j]? = some u → w.cell? ⟨b, o + j, none⟩ = some u
  | [], _, _, _, j, u, h => by simp [vrCells] at h
  | x :: l, b, o, h, 0, u, hu => by simp [vrCells, Vr.cells] at hu; subst hu; exact h.1.1
  | x :: l, b, o, h, 1, u, hu => by simp [vrCells, Vr.cells] at hu; subst hu; exact h.1.2.1
  | x :: l, b, o, h, 2, u, hu => by simp [vrCells, Vr.cells] at hu; subst hu; exact h.1.2.2.1
  | x :: l, b, o, h, 3, u, hu => by simp [vrCells, Vr.cells] at hu; subst hu; exact h.1.2.2.2
  | x :: l, b, o, h, j + 4, u, hu => by
    have := vr_list l b (o + 4) h.2 j u (by simpa [vrCells, Vr.cells] using hu)
    rw [show o + (j + 4) = o + 4 + j by omega]; exact this
theorem vr_of {w : World} : ∀ (l : List Vr) (b o : Nat), (∀ j u, (vrCells l)[j]? = some u → w.cell? ⟨b, o + j, none⟩ = some u) → Row (Vr.At w) 4 l b o
  | [], _, _, _ => trivial
  | x :: l, b, o, h => ⟨⟨h 0 _ (by simp [vrCells, Vr.cells]), h 1 _ (by simp [vrCells, Vr.cells]), h 2 _ (by simp [vrCells, Vr.cells]), h 3 _ (by simp [vrCells, Vr.cells])⟩, vr_of l b (o + 4) fun j u hu => by
    have := h (j + 4) u (by simpa [vrCells, Vr.cells] using hu)
    rw [show o + (j + 4) = o + 4 + j by omega] at this; exact this⟩
theorem vr_src {w : World} {N : Nat} {l : List Vr} {p : Option Addr} (h : RowIn N (Vr.At w) 4 l p) : Src w 4 p l.length (vrCells l) := by
  refine ⟨vr_len l, ?_⟩
  rcases h.2 with h0 | ⟨b, o, hp, _, ha⟩
  · exact .inl h0
  · exact .inr ⟨b, o, hp, vr_list l b o ha⟩
theorem infoVr : (Try.prog.info? 52).map (fun i => (i.zero, i.size, i.bytes)) = some (some (.agg #[.string ⟨#[]⟩, .int .i64 0, .int .i64 0, .bool false]), 4, 40) := by kernel_rfl
/-- a row of the call's own, as a row of variables -/
theorem own_row {w : World} {B : Nat} {v : Value} {l : List Vr} (h : w.ownsRow B 52 4 v l.length (vrCells l)) (hl : l.length ≤ 140737488355328) : ∃ p c, v = .slice p l.length c ∧ RowIn w.heap.size (Vr.At w) 4 l p := by
  rcases h.2 with ⟨rfl, h0⟩ | ⟨g, cap, cur, rfl, hg, hk, hnc, hm, hs, ht⟩
  · exact ⟨none, 0, by rw [h0], by omega, .inl h0⟩
  · refine ⟨_, cap, rfl, hl, .inr ⟨g, 0, rfl, lt_blk hk, vr_of l g 0 fun j u hu => ?_⟩⟩
    rw [← ht, List.getElem?_take] at hu
    split at hu
    · rw [Nat.zero_add]
      exact cell_blk hk (by rw [← Array.getElem?_toList]; exact hu)
    · cases hu
set_option maxRecDepth 100000 in
set_option maxHeartbeats 1600000 in
theorem grow_any (n : Nat) (hn : n ≤ 1000000) (w : World) : Calls Try.prog 95 #[.slice none 0 0, .int .i64 (n : Int)] w fun z w' => ∃ v, z = .returned v ∧ w'.ownsRow w.heap.size 52 4 v 0 [] ∧ Below w.heap.size w w' := by
  obtain ⟨i0, hi, hz0, hz1, hz2⟩ := info_parts infoVr
  by_cases h0 : n = 0
  · subst h0
    go_enter Try.func95, Try.ntmps95
    go_wp2_with fail
    go_ret
    exact ⟨_, rfl, ⟨by simp, .inl ⟨rfl, rfl⟩⟩, Below.refl _ _⟩
  · have happ := Lib.run_append_nil_zeros (P := Try.prog) w 53 3 53 52 i0 _ .i64 .i64 Try.underlying53 Try.underlying3 hi hz0 n (by omega) (by omega) (by omega) (by rw [hz2]; omega)
    have hge := grownCap_ge w n 0 52
    have hle := grownCap_le_maxLen w n 0 52 (by unfold maxLen; omega)
    generalize grownCap w n 0 52 = cap2 at happ hge hle
    generalize hZ : (Builtin.zeroCells (Value.agg #[.string ⟨#[]⟩, .int .i64 0, .int .i64 0, .bool false]).cells n ++ Builtin.zeroCells (Value.agg #[.string ⟨#[]⟩, .int .i64 0, .int .i64 0, .bool false]).cells (cap2 - n)) = Z at happ
    have hZs : Z.size = cap2 * 4 := by rw [← hZ]; simp [size_zeroCells, Value.cells]; omega
    clear hZ
    have h1 : ¬ (n : Int) < 0 := by omega
    have h2 : (0 : Int) < (n : Int) := by omega
    have HR := Lib.hid (show (w.drew.alloc (.cells Z 52)).ownsRow w.heap.size 52 4 (.slice (some ⟨w.heap.size, 0, none⟩) 0 cap2) 0 [] ∧ Below w.heap.size w (w.drew.alloc (.cells Z 52)) from
      ⟨⟨by simp, .inr ⟨w.heap.size, cap2, Z, rfl, Nat.le_refl _, heap_alloc_new w.drew _, by omega, hle, hZs, by simp⟩⟩, (Below.refl _ w).drew.alloc (Nat.le_refl _) _⟩)
    clear hZs h0
    go_enter Try.func95, Try.ntmps95
    go_wp2_with (at_builtin; refine Lib.wpList_append_run _ rfl _ _ _ _ rfl _ _ rfl rfl _ _ happ ?_)
    go_ret
    exact ⟨_, rfl, HR.out⟩
end Go.Proofs.Ytnghehcjklkoeaa
/- slices.Concat of two lists of variables. -/
namespace Go.Proofs.Ytnghehcjklkoeaa
open Go.RowKit

theorem own_blk {w : World} {B n size : Nat} {e : TypeId} {v : Value} {xs : List Value} (h : w.ownsRow B e size v n xs) : ∀ j, v.ownBlock = some j → B ≤ j := by
  intro j hj
  rcases h.2 with ⟨rfl, _⟩ | ⟨g, cap, cur, rfl, hg, _⟩
  · cases hj
  · cases hj; exact hg
set_option maxRecDepth 100000 in
set_option maxHeartbeats 6400000 in
theorem concat_any (ps vs : List Vr) (pp pv : Option Addr) (cp cv g N : Nat) (w : World) (hg : w.heap[g]? = some (.cells #[.slice pp ps.length cp, .slice pv vs.length cv] 53 (0, 0))) (h1 : RowIn N (Vr.At w) 4 ps pp) (h2 : RowIn N (Vr.At w) 4 vs pv) (hN : N ≤ w.heap.size) (hs : ps.length + vs.length ≤ 1000) :
    Calls Try.prog 78 #[.slice (some ⟨g, 0, none⟩) 2 2] w fun z w' => ∃ p c, z = .returned (.slice p (ps ++ vs).length c) ∧ RowIn w'.heap.size (Vr.At w') 4 (ps ++ vs) p ∧ Below w.heap.size w w' := by
  obtain ⟨i0, hi, hz0, hz1, hz2⟩ := info_parts infoVr
  have c0 : w.cell? ⟨g, 0, none⟩ = some (.slice pp ps.length cp) := cell_blk hg rfl
  have c1 : w.cell? ⟨g, 1, none⟩ = some (.slice pv vs.length cv) := cell_blk hg rfl
  have hw1 : IntKind.i64.wrap (ps.length : Int) = (ps.length : Int) := by simp [IntKind.wrap, IntKind.bits, IntKind.signed]; omega
  have hw2 : IntKind.i64.wrap ((ps.length : Int) + (vs.length : Int)) = (ps.length : Int) + (vs.length : Int) := by simp [IntKind.wrap, IntKind.bits, IntKind.signed]; omega
  have hn0 : ¬ (ps.length : Int) < 0 := by omega
  have hn1 : ¬ (ps.length : Int) + (vs.length : Int) < 0 := by omega
  have HG := Lib.hid hg
  have H1 := Lib.hid h1
  have H2 := Lib.hid h2
  have HGr := Lib.hid (grow_any (ps.length + vs.length) (by omega) w)
  rw [show ((ps.length + vs.length : Nat) : Int) = (ps.length : Int) + (vs.length : Int) by omega] at HGr
  clear hg h1 h2
  go_enter Try.func78, Try.ntmps78
  go_wp2_with fail
  go_loopw [3, 11] (fun s i wr => ∃ k : Nat, i = .int .i64 k ∧ k ≤ 2 ∧ s = .int .i64 (if k = 0 then 0 else if k = 1 then (ps.length : Int) else (ps.length : Int) + (vs.length : Int)) ∧ wr = w) (fun _ i _ => 2 - (intOf i).toNat)
  case atStart => exact ⟨0, rfl, by omega, rfl, rfl⟩
  case round =>
    obtain ⟨k, rfl, hk, rfl, rfl⟩ := hrel
    rcases (show k = 0 ∨ k = 1 ∨ k = 2 by omega) with rfl | rfl | rfl
    · go_wp2_with fail
      go_roundw
      case rel => exact ⟨1, by go_num, by omega, rfl, trivial⟩
      case measure => simp [intOf]
    · go_wp2_with fail
      go_roundw
      case rel => exact ⟨2, by go_num, by omega, rfl, trivial⟩
      case measure => simp [intOf]
    · go_wp2_with fail
      refine HGr.out.mono ?_
      rintro z w1 ⟨v, rfl, hv, hB⟩
      have HV := Lib.hid hv
      have HB := Lib.hid hB
      clear hv hB c0 c1
      go_wp2_with fail
      obtain ⟨wo, rfl⟩ : ∃ wo : World, wo = wr := ⟨_, rfl⟩
      go_loopw [6, 27] (fun s i wz => ∃ k : Nat, i = .int .i64 k ∧ k ≤ 2 ∧ Hid (wz.ownsRow wo.heap.size 52 4 s (if k = 0 then 0 else if k = 1 then ps.length else ps.length + vs.length) (if k = 0 then [] else if k = 1 then vrCells ps else vrCells ps ++ vrCells vs)) ∧ Hid (Below wo.heap.size wo wz)) (fun _ i _ => 2 - (intOf i).toNat)
      case atStart => exact ⟨0, rfl, by omega, HV, HB⟩
      case round =>
        obtain ⟨k, rfl, hk, hO, hB⟩ := hrel
        have c0 : wr.cell? ⟨g, 0, none⟩ = some (.slice pp ps.length cp) := cell_blk ((hB.out.block _ (lt_blk HG.out)).trans HG.out) rfl
        have c1 : wr.cell? ⟨g, 1, none⟩ = some (.slice pv vs.length cv) := cell_blk ((hB.out.block _ (lt_blk HG.out)).trans HG.out) rfl
        have HS1 := Lib.hid (vr_src (H1.out.imp (Nat.le_refl _) (Vr.At.later (hB.out.mono hN))))
        have HS2 := Lib.hid (vr_src (H2.out.imp (Nat.le_refl _) (Vr.At.later (hB.out.mono hN))))
        rcases (show k = 0 ∨ k = 1 ∨ k = 2 by omega) with rfl | rfl | rfl
        · go_wp2_with (at_builtin; refine wpList_append_src rfl _ _ 53 rfl wo.heap.size 52 i0 _ 4 40 Try.underlying53 hi hz0 hz1 hz2 rfl (by decide) _ 0 [] rfl hO.out _ _ _ (vrCells ps) rfl HS1.out (vr_one ps) (by unfold maxLen; omega) (by omega) hB.out.size ?_; intro v' w2 hown hgrow)
          have HX := Lib.hid (And.intro hown (hB.out.grown hgrow hB.out.size (own_blk hO.out)))
          clear hown hgrow c0 c1
          go_wp2_with fail
          go_roundw
          case rel => exact ⟨1, by go_num, by omega, Lib.hid (by simpa using HX.out.1), Lib.hid HX.out.2⟩
          case measure => simp [intOf]
        · have hO1 : wr.ownsRow wo.heap.size 52 4 u6 ps.length (vrCells ps) := hO.out
          go_wp2_with (at_builtin; refine wpList_append_src rfl _ _ 53 rfl wo.heap.size 52 i0 _ 4 40 Try.underlying53 hi hz0 hz1 hz2 rfl (by decide) _ ps.length (vrCells ps) rfl hO1 _ _ _ (vrCells vs) rfl HS2.out (vr_one vs) (by unfold maxLen; omega) (by omega) hB.out.size ?_; intro v' w2 hown hgrow)
          have HX := Lib.hid (And.intro hown (hB.out.grown hgrow hB.out.size (own_blk hO.out)))
          clear hown hgrow c0 c1
          go_wp2_with fail
          go_roundw
          case rel => exact ⟨2, by go_num, by omega, Lib.hid (by simpa using HX.out.1), Lib.hid HX.out.2⟩
          case measure => simp [intOf]
        · have hO2 : wr.ownsRow wo.heap.size 52 4 u6 (ps ++ vs).length (vrCells (ps ++ vs)) := by have := hO.out; simpa [vrCells] using this
          obtain ⟨p, c, rfl, hrow⟩ := own_row hO2 (by rw [List.length_append]; omega)
          have HR := Lib.hid hrow
          clear hO2 hrow hO c0 c1
          go_wp2_with fail
          go_ret
          exact ⟨p, c, rfl, HR.out, hB.out⟩
end Go.Proofs.Ytnghehcjklkoeaa
