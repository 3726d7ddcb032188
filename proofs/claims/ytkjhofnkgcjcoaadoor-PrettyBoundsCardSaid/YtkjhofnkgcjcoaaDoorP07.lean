/- Expr: an expression's text, or why there is none. -/
import Derived.Test.YtkjhofnkgcjcoaaDoorP06
import Derived.Test.YtkjhofnkgcjcoaaDoorRows
import Derived.WalkKit
import Derived.ProofKit
import Derived.LaidLaws
import Derived.LaidHandle
import Derived.Stop.Joined
import Derived.Stop.LaidErr
import Derived.Lib.LaidTab
namespace Go.Proofs.YtkjhofnkgcjcoaaDoor
open Go.RowKit

theorem may_parts {op : Int} {wd : Nat} {nm : List UInt8} {ar : Exs} (h : (Ex.mk op wd nm ar).may = true) : ar.len = argsN op ∧ ar.may = true ∧ okOp op wd nm = true := by
  rw [Ex.may, Bool.and_eq_true, Bool.and_eq_true, decide_eq_true_eq] at h
  exact ⟨h.1.1, h.1.2, h.2⟩
theorem tell_step (n : Nat) (ih : TellTo n) : TellTo (n + 1) := by
  intro x hxs hm b o N B m v bs w hb hN hx he hR hl
  obtain ⟨op, wd, nm, ar⟩ := x
  obtain ⟨hlen, hma, hok⟩ := may_parts hm
  obtain ⟨⟨h0, h1, h2, h3⟩, ⟨p, c, h4, s4⟩⟩ := hx
  simp only [Ex.size] at hxs
  have hop : op = 1 ∨ op = 2 ∨ op = 3 ∨ op = 4 ∨ op = 5 ∨ op = 21 ∨ (6 ≤ op ∧ op ≤ 20) := by
    rcases Int.lt_or_le op 1 with h | h
    · rw [okOp_no (by omega)] at hok; cases hok
    · rcases Int.lt_or_le 21 op with h' | h'
      · rw [okOp_no (by omega)] at hok; cases hok
      · omega
  have one : ar.len = 1 → ∃ y, ar = .cons y .nil ∧ y.size < n ∧ y.may = true ∧ ∃ b2 o2, p = some ⟨b2, o2, none⟩ ∧ b2 < N ∧ y.At w N b2 o2 := fun h => by
    obtain ⟨y, rfl⟩ := Exs.one h
    simp only [Exs.size] at hxs
    rw [Exs.may, Bool.and_eq_true] at hma
    obtain ⟨b2, o2, e1, e2, e3⟩ := Exs.In.some' (l := .cons y .nil) s4 (by simp [Exs.len])
    exact ⟨y, rfl, by omega, hma.1, b2, o2, e1, e2, e3.1⟩
  rcases hop with rfl | rfl | rfl | rfl | rfl | rfl | hop
  · exact expr_const b o N B m v bs w hb hN he hR wd nm p ar.len c h3 ⟨h0, h1, h2, h4⟩ hl
  · exact expr_var b o N B m v bs w hb hN he hR wd nm p ar.len c ⟨h0, h1, h2, h4⟩ hl
  · obtain ⟨y, rfl, hys, hym, hsub⟩ := one hlen
    exact expr_index b o N B m v bs w hb hN he hR wd nm p _ c n ih y hys hym rfl hsub ⟨h0, h1, h2, h4⟩ hl
  · obtain ⟨y, rfl, hys, hym, hsub⟩ := one hlen
    exact expr_not b o N B m v bs w hb hN he hR wd nm p _ c n ih y hys hym rfl hsub ⟨h0, h1, h2, h4⟩ hl
  · obtain ⟨y, rfl, hys, hym, hsub⟩ := one hlen
    exact expr_neg b o N B m v bs w hb hN he hR wd nm p _ c n ih y hys hym rfl hsub ⟨h0, h1, h2, h4⟩ hl
  · exact expr_pick b o N B m v bs w hb hN he hR wd nm p _ c n ih ar (by omega) hma rfl s4 ⟨h0, h1, h2, h4⟩ hl
  · have h2' : ar.len = 2 := by rw [hlen, argsN, if_neg (by omega), if_pos hop]
    obtain ⟨y, z, rfl⟩ := Exs.two h2'
    simp only [Exs.size] at hxs
    rw [Exs.may, Exs.may, Bool.and_eq_true, Bool.and_eq_true] at hma
    obtain ⟨b2, o2, e1, e2, e3⟩ := Exs.In.some' (l := .cons y (.cons z .nil)) s4 (by simp [Exs.len])
    have ht : (Ex.mk op wd nm (.cons y (.cons z .nil))).text = [40] ++ y.text ++ [32] ++ signOf op ++ [32] ++ z.text ++ [41] := by
      rw [Ex.text, textOf, if_neg (by omega), if_neg (by omega), if_neg (by omega), if_neg (by omega), if_neg (by omega), if_neg (by omega)]; rfl
    rw [ht] at hl ⊢
    exact expr_two b o N B m v bs w hb hN he hR wd nm p _ c n ih y z (by omega) hma.1 (by omega) hma.2.1 op hop rfl ⟨b2, o2, e1, e2, e3.1, e3.2.1⟩ ⟨h0, h1, h2, h4⟩ hl
theorem tell_to : ∀ n, TellTo n
  | 0 => fun _ h => absurd h (Nat.not_lt_zero _)
  | n + 1 => tell_step n (tell_to n)

/-- the library's table lies there, and stays -/
def Glob (w : World) : Prop := Lib.TabBelow Tryd.prog w.heap.size w "internal/strconv.uint64pow10" .u64 Lib.pow10Tab
theorem Glob.later {w w' : World} (h : Glob w) (hB : Below w.heap.size w w') : Glob w' := fun w2 h2 => h w2 (hB.trans (h2.mono hB.size))

set_option maxRecDepth 100000 in
set_option maxHeartbeats 1600000 in
theorem newTeller_any (w : World) : Calls Tryd.prog 16 #[] w fun e w' => ∃ m, e = .returned (.agg #[.map (some m)]) ∧ w'.heap[m]? = some (fmap signT) ∧ Below w.heap.size w w' := by
  have HC := Lib.hid (signs_any (w.alloc (.cells #[.map none] 58)))
  go_enter Tryd.func16, Tryd.ntmps16
  go_wp2_with fail
  refine HC.out.mono ?_
  rintro e w2 ⟨m, rfl, hmp, hmb, hB2⟩
  have hg : w2.heap[w.heap.size]? = some (.cells #[.map none] 58 (0, 0)) := (hB2.block _ (by simp)).trans (heap_alloc_new w _)
  have c0 := cell_of_one hg
  have z0 := free_of_one hg
  have HM := Lib.hid (And.intro hmp hmb)
  have HB := Lib.hid (((Below.refl _ w).alloc (Nat.le_refl _) (.cells #[.map none] 58)).trans (hB2.mono (by simp)))
  clear hmp hmb hB2 hg
  go_wp2_with fail
  have hc := World.cell?_setCell_same w2 ⟨w.heap.size, 0, none⟩ (.map (some m)) c0
  refine bodyPost_ret (v := .agg #[.map (some m)]) (by simp [results, Tryd.results16, go_sem, hc]) rfl ⟨m, rfl, ?_, HB.out.setCell (Nat.le_refl _) _⟩
  rw [Below.heap_setCell _ _ _ _ (by have := HM.out.2; simp at this; show m ≠ w.heap.size; omega)]
  exact HM.out.1

set_option maxRecDepth 100000 in
set_option maxHeartbeats 1600000 in
theorem exprText_any (x : Ex) (hm : x.may = true) (b o m : Nat) (w : World) (hb : b < w.heap.size) (hx : x.At w w.heap.size b o) (hmp : w.heap[m]? = some (fmap signT)) (hG : Glob w) (hl : x.text.length ≤ 1000000000) :
    Calls Tryd.prog 17 #[.agg #[.map (some m)], .pointer (some ⟨b, o, none⟩)] w fun e w' => e = .returned (.string (str x.text)) ∧ Below w.heap.size w w' := by
  have hB1 : Below w.heap.size w (w.alloc (.cells #[.map (some m)] 58)) := (Below.refl _ _).alloc (Nat.le_refl _) _
  have HB1 := Lib.hid hB1
  have HC := Lib.hid (tell_to _ x (Nat.lt_succ_self _) hm b o w.heap.size w.heap.size m (.slice none 0 0) [] (w.alloc (.cells #[.map (some m)] 58)) hb (Nat.le_refl _) (Ex.At.later hB1 (Nat.le_refl _) x b o hb hx)
    ⟨(hB1.block m (lt_of_block hmp)).trans hmp, lt_of_block hmp, fun w2 h2 => hG w2 (hB1.trans h2), by simp⟩ (BRow.nil _ _) (by simpa using hl))
  clear hx hmp hG hB1
  go_enter Tryd.func17, Tryd.ntmps17
  go_wp2_with fail
  refine HC.out.mono ?_
  rintro e w2 ⟨⟨v, rfl, hR⟩, hF⟩
  have hcv := BRow.conv hR
  have HF := Lib.hid (HB1.out.trans hF.1)
  clear hR hF
  go_wp2_with fail
  go_ret
  exact ⟨rfl, HF.out⟩

def exprR (x : Ex) : List UInt8 := if 64 < x.depth ∨ x.may = false then [] else if 65536 < x.text.length then [] else x.text
def exprE (x : Ex) : Nat := if 64 < x.depth ∨ x.may = false then 2 else if 65536 < x.text.length then 3 else 0

set_option maxRecDepth 100000 in
set_option maxHeartbeats 3200000 in
theorem expr_any (x : Ex) (p : Option Addr) (c N : Nat) (w : World) (hx6 : x.size ≤ 1000000) (h : x.Ok w N p) (hN : N ≤ w.heap.size) (hG : Glob w) (hl : x.may = true → x.text.length ≤ 1000000000) :
    Calls Tryd.prog 4 #[x.val p c] w fun e w' => e = .returned (.tuple #[.string (str (exprR x)), .int .i64 (exprE x)]) ∧ Below w.heap.size w w' := by
  obtain ⟨w1, hw1⟩ : ∃ w1, w.alloc (.cells #[.int .i64 x.op, .int .u64 (x.word : Int), .string (str x.name), .slice p x.args.len c] 29) = w1 := ⟨_, rfl⟩
  have hB1 : Below w.heap.size w w1 := by rw [← hw1]; exact (Below.refl _ _).alloc (Nat.le_refl _) _
  have hAt : x.At w1 (w.heap.size + 1) w.heap.size 0 := by rw [← hw1]; exact Ex.At.new h hN
  have hz1 : w1.heap.size = w.heap.size + 1 := by rw [← hw1]; simp
  have hOk1 := h.later (hB1.mono hN) (Nat.le_refl _)
  have e0 : w1.heap[w.heap.size]? = some (.cells #[.int .i64 x.op, .int .u64 (x.word : Int), .string (str x.name), .slice p x.args.len c] 29 (0, 0)) := by rw [← hw1]; exact heap_alloc_new w _
  have HG1 := Lib.hid (hG.later hB1)
  have HD := Lib.hid (depth_any x hx6 p c N w1 hOk1 (by omega))
  have HM := Lib.hid (fun w2 (hB : Below w1.heap.size w1 w2) => mayExpr_any x p c N w2 (by have := hB.size; omega) (hOk1.later (hB.mono (by omega)) (Nat.le_refl _)))
  have HAt := Lib.hid (fun w2 (hB : Below w1.heap.size w1 w2) => (Ex.At.later (hB.mono (by omega)) (by have := hB.size; omega) x w.heap.size 0 (by omega) hAt : x.At w2 w2.heap.size w.heap.size 0))
  have c0 : w1.cell? ⟨w.heap.size, 0, none⟩ = some (.int .i64 x.op) := by simp [World.cell?, e0]
  have c1 : w1.cell? ⟨w.heap.size, 1, none⟩ = some (.int .u64 (x.word : Int)) := by simp [World.cell?, e0]
  have c2 : w1.cell? ⟨w.heap.size, 2, none⟩ = some (.string (str x.name)) := by simp [World.cell?, e0]
  have c3 : w1.cell? ⟨w.heap.size, 3, none⟩ = some (.slice p x.args.len c) := by simp [World.cell?, e0]
  have HB1 := Lib.hid hB1
  have HZ := Lib.hid hz1
  unfold Ex.val at HD HM ⊢
  have HR0 : Hid ((64 < x.depth ∨ x.may = false) → exprR x = [] ∧ exprE x = 2) := Lib.hid (fun h => by rw [exprR, exprE, if_pos h, if_pos h]; exact ⟨rfl, rfl⟩)
  have HR1 : Hid (¬ (64 < x.depth ∨ x.may = false) → exprR x = (if 65536 < x.text.length then [] else x.text) ∧ exprE x = (if 65536 < x.text.length then 3 else 0)) := Lib.hid (fun h => by rw [exprR, exprE, if_neg h, if_neg h]; exact ⟨rfl, rfl⟩)
  have HX6 := Lib.hid hl
  have HT : Hid (x.may = true → ∀ (m : Nat) (w2 : World), Below w1.heap.size w1 w2 → w2.heap[m]? = some (fmap signT) → Calls Tryd.prog 17 #[.agg #[.map (some m)], .pointer (some ⟨w.heap.size, 0, none⟩)] w2 fun e w' => e = .returned (.string (str x.text)) ∧ Below w2.heap.size w2 w') := Lib.hid (fun hm m w2 hB hmp =>
    exprText_any x hm w.heap.size 0 m w2 (by have := hB.size; omega) (HAt.out w2 hB) hmp (HG1.out.later hB) (hl hm))
  clear h hG hAt hOk1 hB1 e0 hl
  obtain ⟨d, hd⟩ : ∃ d, x.depth = d := ⟨_, rfl⟩
  obtain ⟨mb, hmb⟩ : ∃ mb, x.may = mb := ⟨_, rfl⟩
  obtain ⟨tx, htx⟩ : ∃ tx, x.text = tx := ⟨_, rfl⟩
  have hdl : d ≤ 1000000 := by rw [← hd]; exact Nat.le_trans (Ex.depth_le x) hx6
  rw [hd, hmb] at HR0 HR1
  rw [hd] at HD
  rw [hmb] at HM HT
  rw [htx] at HR1 HT
  have hszx := size_str tx
  clear hd hmb htx hx6
  go_enter Tryd.func4, Tryd.ntmps4
  go_wp2_with fail
  refine HD.out.mono ?_
  rintro e w2 ⟨rfl, hB2⟩
  have d0 := (hB2.cell (p := ⟨w.heap.size, 0, none⟩) (by show w.heap.size < _; omega)).trans c0
  have d1 := (hB2.cell (p := ⟨w.heap.size, 1, none⟩) (by show w.heap.size < _; omega)).trans c1
  have d2 := (hB2.cell (p := ⟨w.heap.size, 2, none⟩) (by show w.heap.size < _; omega)).trans c2
  have d3 := (hB2.cell (p := ⟨w.heap.size, 3, none⟩) (by show w.heap.size < _; omega)).trans c3
  have HB2 := Lib.hid hB2
  clear hB2
  by_cases h64 : 64 < d
  · have HF := Lib.hid (HR0.out (.inl h64))
    go_wp2_with fail
    go_ret2
    exact ⟨by rw [HF.out.1, HF.out.2]; rfl, HB1.out.trans (HB2.out.mono (by have := HZ.out; omega))⟩
  · have HM2 := Lib.hid (HM.out w2 HB2.out)
    cases mb
    · have HF := Lib.hid (HR0.out (.inr rfl))
      go_wp2_with fail
      refine HM2.out.mono ?_
      rintro e w3 ⟨rfl, hB3⟩
      have HB3 := Lib.hid (HB2.out.trans (hB3.mono HB2.out.size))
      clear hB3
      go_wp2_with fail
      go_ret2
      exact ⟨by rw [HF.out.1, HF.out.2]; rfl, HB1.out.trans (HB3.out.mono (by have := HZ.out; omega))⟩
    · have HF := Lib.hid (HR1.out (by simp; omega))
      go_wp2_with fail
      refine HM2.out.mono ?_
      rintro e w3 ⟨rfl, hB3⟩
      have HB3 := Lib.hid (HB2.out.trans (hB3.mono HB2.out.size))
      clear hB3
      go_wp2_with fail
      refine (newTeller_any _).mono ?_
      rintro e w4 ⟨m, rfl, hmp, hB4⟩
      have hB4' := HB3.out.trans (hB4.mono HB3.out.size)
      have HT4 := Lib.hid (HT.out trivial m w4 hB4' hmp)
      have HB4 := Lib.hid hB4'
      clear hB4 hmp hB4'
      go_wp2_with fail
      refine HT4.out.mono ?_
      rintro e w5 ⟨rfl, hB5⟩
      have HB5 := Lib.hid (HB4.out.trans (hB5.mono HB4.out.size))
      clear hB5
      by_cases hlong : 65536 < tx.length
      · have HF2 := HF.out
        rw [if_pos hlong, if_pos hlong] at HF2
        have HF2 := Lib.hid HF2
        go_wp2_with fail
        go_ret2
        exact ⟨by rw [HF2.out.1, HF2.out.2]; rfl, HB1.out.trans (HB5.out.mono (by have := HZ.out; omega))⟩
      · have HF2 := HF.out
        rw [if_neg hlong, if_neg hlong] at HF2
        have HF2 := Lib.hid HF2
        go_wp2_with fail
        go_ret2
        exact ⟨by rw [HF2.out.1, HF2.out.2]; rfl, HB1.out.trans (HB5.out.mono (by have := HZ.out; omega))⟩
end Go.Proofs.YtkjhofnkgcjcoaaDoor
/- What the rows' lists give a walk; a world that meets them. -/
namespace Go.Proofs.YtkjhofnkgcjcoaaDoor
open Go.ChangeShapes Go.WideShapes Go.RowKit

theorem own : ownKnob Tryd.prog.godebug = none := by kernel_rfl
theorem laidO : laidOutB Tryd.prog = true := by kernel_rfl
theorem gP : Tryd.prog.globalNamed "internal/strconv.uint64pow10" = some 1 := by kernel_rfl
theorem gPT : (Tryd.prog.globals[1]?).map (·.type) = some 148 := by kernel_rfl

theorem glob_of_laid {W : World} (h : laidMetH Tryd.prog Rows.prettyBoundsRow.laid W) : Glob W := by
  have h' : laidMet Tryd.prog [("math/bits.deBruijn32tab", Rows.laid_math_bits_deBruijn32tab), ("math/bits.deBruijn64tab", Rows.laid_math_bits_deBruijn64tab), ("internal/strconv.uint64pow10", Rows.laid_internal_strconv_uint64pow10)] W := h
  exact Lib.tabBelow_of_tabIs (Lib.tabIs_of_head gP gPT Tryd.underlying148 Tryd.underlying26 (by kernel_rfl) (by kernel_rfl)
    (show laidMet Tryd.prog (("internal/strconv.uint64pow10", Lib.tabData .u64 Lib.pow10Tab) :: []) W from h'.tail.tail))

def put1 (cs : Array Value) : Obj → Obj
  | .cells _ t frozen => .cells cs t frozen
  | o => o
noncomputable def laidWorld (os : Os) : World :=
  let w0 := World.holding Tryd.prog os ⟨#[], #[], []⟩
  { w0 with heap := ((w0.heap.modify 1 (put1 #[.int .u64 1, .int .u64 10, .int .u64 100, .int .u64 1000, .int .u64 10000, .int .u64 100000, .int .u64 1000000, .int .u64 10000000, .int .u64 100000000, .int .u64 1000000000, .int .u64 10000000000, .int .u64 100000000000, .int .u64 1000000000000, .int .u64 10000000000000, .int .u64 100000000000000, .int .u64 1000000000000000, .int .u64 10000000000000000, .int .u64 100000000000000000, .int .u64 1000000000000000000, .int .u64 10000000000000000000])).modify 2 (put1 #[.int .u8 0, .int .u8 1, .int .u8 28, .int .u8 2, .int .u8 29, .int .u8 14, .int .u8 24, .int .u8 3, .int .u8 30, .int .u8 22, .int .u8 20, .int .u8 15, .int .u8 25, .int .u8 17, .int .u8 4, .int .u8 8, .int .u8 31, .int .u8 27, .int .u8 13, .int .u8 23, .int .u8 21, .int .u8 19, .int .u8 16, .int .u8 7, .int .u8 26, .int .u8 12, .int .u8 18, .int .u8 6, .int .u8 11, .int .u8 5, .int .u8 10, .int .u8 9])).modify 3 (put1 #[.int .u8 0, .int .u8 1, .int .u8 56, .int .u8 2, .int .u8 57, .int .u8 49, .int .u8 28, .int .u8 3, .int .u8 61, .int .u8 58, .int .u8 42, .int .u8 50, .int .u8 38, .int .u8 29, .int .u8 17, .int .u8 4, .int .u8 62, .int .u8 47, .int .u8 59, .int .u8 36, .int .u8 45, .int .u8 43, .int .u8 51, .int .u8 22, .int .u8 53, .int .u8 39, .int .u8 33, .int .u8 30, .int .u8 24, .int .u8 18, .int .u8 12, .int .u8 5, .int .u8 63, .int .u8 55, .int .u8 48, .int .u8 27, .int .u8 60, .int .u8 41, .int .u8 37, .int .u8 16, .int .u8 46, .int .u8 35, .int .u8 44, .int .u8 21, .int .u8 52, .int .u8 32, .int .u8 23, .int .u8 11, .int .u8 54, .int .u8 26, .int .u8 40, .int .u8 15, .int .u8 34, .int .u8 20, .int .u8 31, .int .u8 10, .int .u8 25, .int .u8 14, .int .u8 19, .int .u8 9, .int .u8 13, .int .u8 8, .int .u8 7, .int .u8 6]) }
theorem laid_met (os : Os) (args : Array Value) : laidMetH Tryd.prog Rows.prettyBoundsRow.laid ((laidWorld os).forCall (fun _ _ => 0) ⟨#[], args, []⟩).memory :=
  laidMetH_of_parts (laidMet_of_run' 8 (by kernel_rfl) (by kernel_rfl)) (by kernel_rfl)
end Go.Proofs.YtkjhofnkgcjcoaaDoor
