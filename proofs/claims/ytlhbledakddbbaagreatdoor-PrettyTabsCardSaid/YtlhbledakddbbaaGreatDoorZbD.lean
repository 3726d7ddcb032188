/- F5, L0, R4, G1, G2, H1, H3, V0, W1, W2, W3 as one. -/
import Derived.Lib.Join
import Derived.Lib.ItoaLen
import Derived.WalkMore
import Derived.Deep.CutBlock
import Derived.Deep.CutRange
import Derived.Deep.RegionHeld
import Derived.Deep.RegionHeld3
import Derived.Test.YtlhbledakddbbaaGreatDoorRows
import Derived.WalkKit
import Derived.ProofKit
import Derived.LaidLaws
import Derived.LaidHandle
import Derived.Stop.Joined
import Derived.Stop.LaidErr
import Derived.Lib.LaidTab
import Derived.Outline
import Derived.IntWalk
import Derived.Laws.AppendOwnNone
import Derived.WalkSpells
import Derived.Deep.RegionWith
import Derived.Test.YtlhbledakddbbaaGreatDoorZbC
/- The law on expressions: its walk. -/
namespace Go.Proofs.YtlhbledakddbbaaGreatDoor
open Go.RowKit

mutual
def Ex.fine : Ex → Prop
  | .mk _ x _ a => x < 18446744073709551616 ∧ a.fine
def Exs.fine : Exs → Prop
  | .nil => True
  | .cons x r => x.fine ∧ r.fine
end
mutual
theorem Ex.At.fine {w : World} {N : Nat} : ∀ (x : Ex) (b o : Nat), x.At w N b o → x.fine
  | .mk op x nm as', b, o, h => by
    obtain ⟨⟨h0, h1, h2, h3⟩, ⟨p, c, h4, s4⟩⟩ := h
    refine ⟨h3, ?_⟩
    rcases s4.2 with h0 | ⟨b', o', _, _, ha⟩
    · cases as' with
      | nil => trivial
      | cons => simp [Exs.len] at h0
    · exact Exs.At.fine as' b' o' ha
theorem Exs.At.fine {w : World} {N : Nat} : ∀ (l : Exs) (b o : Nat), l.At w N b o → l.fine
  | .nil, _, _, _ => trivial
  | .cons x r, b, o, h => ⟨Ex.At.fine x b o h.1, Exs.At.fine r b (o + 4) h.2⟩
end
theorem Ex.Ok.fine {w : World} {N : Nat} {x : Ex} {p : Option Addr} (h : x.Ok w N p) : x.fine := by
  obtain ⟨op, wd, nm, ar⟩ := x
  refine ⟨h.2, ?_⟩
  rcases h.1.2 with h0 | ⟨b', o', _, _, ha⟩
  · cases ar with
    | nil => trivial
    | cons => simp [Ex.args, Exs.len] at h0
  · exact Exs.At.fine ar b' o' ha
mutual
theorem Ex.size_total : ∀ x : Ex, x.size + 1 ≤ 2 * x.total
  | .mk _ _ nm a => by have := Exs.size_total a; simp only [Ex.size, Ex.total]; omega
theorem Exs.size_total : ∀ a : Exs, a.size ≤ 2 * a.total
  | .nil => Nat.le_refl _
  | .cons x r => by have := Ex.size_total x; have := Exs.size_total r; simp only [Exs.size, Exs.total]; omega
end
def sumL : List (List UInt8) → Nat
  | [] => 0
  | x :: r => x.length + 2 + sumL r
theorem joinL_len (ts : List (List UInt8)) : (Lib.join ts [44, 32]).length ≤ sumL ts := by
  have tail : ∀ r : List (List UInt8), (Lib.joinTail [44, 32] r).length ≤ sumL r := fun r => by
    induction r with
    | nil => exact Nat.le_refl _
    | cons x r ih => simp only [Lib.joinTail, List.map_cons, List.flatten_cons, List.length_append, List.length_cons, List.length_nil, sumL] at ih ⊢; omega
  cases ts with
  | nil => exact Nat.le_refl _
  | cons x r =>
    have := tail r
    rw [Lib.join_cons, List.length_append, sumL]; omega
theorem dec_len {x : Nat} (h : x < 18446744073709551616) : (Lib.decDigits x).length ≤ 20 := by
  rw [Lib.decDigits_length]
  exact Lib.nDigits_le20 x h
theorem sign_len (op : Int) : (signOf op).length ≤ 4 := by
  by_cases h : op < 6 ∨ 20 < op
  · rw [(no_sign h).2]; exact Nat.zero_le _
  · rcases fifteen (o := op) (by omega) (by omega) with rfl | rfl | rfl | rfl | rfl | rfl | rfl | rfl | rfl | rfl | rfl | rfl | rfl | rfl | rfl <;> decide
theorem text_len {op : Int} {x : Nat} {nm : List UInt8} {ts : List (List UInt8)} (h : x < 18446744073709551616) : (textOf op x nm ts).length ≤ 28 + nm.length + sumL ts := by
  have h0 : (ts.getD 0 []).length + (ts.getD 1 []).length ≤ sumL ts := by
    cases ts with
    | nil => exact Nat.le_refl _
    | cons a r =>
      cases r with
      | nil => simp [sumL]
      | cons b r => simp [sumL]; omega
  have := dec_len h
  have := sign_len op
  have := joinL_len ts
  unfold textOf
  repeat' split
  all_goals first | omega | (simp only [List.length_append, List.length_cons, List.length_nil]; omega)
mutual
theorem Ex.text_le : ∀ x : Ex, x.fine → x.text.length + 2 ≤ 30 * x.total
  | .mk op x nm a, h => by
    have h1 := Exs.text_le a h.2
    have h2 := text_len (op := op) (nm := nm) (ts := a.texts) h.1
    simp only [Ex.text, Ex.total]; omega
theorem Exs.text_le : ∀ a : Exs, a.fine → sumL a.texts ≤ 30 * a.total
  | .nil, _ => Nat.le_refl _
  | .cons x r, h => by
    have h1 := Ex.text_le x h.1
    have h2 := Exs.text_le r h.2
    simp only [Exs.texts, sumL, Exs.total]; omega
end
set_option maxHeartbeats 1600000 in
theorem rMayE_any (x : Ex) (hx6 : x.size ≤ 1000000) (p : Option Addr) (c N : Nat) (w : World) (h : x.Ok w N p) (hN : N ≤ w.heap.size) :
    Calls Tryz.prog 13 #[x.val p c] w fun e w' => e = .returned (.bool (decide (x.depth ≤ 64) && x.may)) ∧ Below w.heap.size w w' := by
  obtain ⟨W0, hW0⟩ : ∃ W0, w.alloc (.cells #[.int .i64 x.op, .int .u64 (x.word : Int), .string (str x.name), .slice p x.args.len c] 26) = W0 := ⟨_, rfl⟩
  have HW0 := Lib.hid (show Below w.heap.size w W0 by rw [← hW0]; exact (Below.refl _ _).alloc (Nat.le_refl _) _)
  have HX := Lib.hid (fun w1 hb => cells_later (w0 := W0) (w1 := w1) (b := w.heap.size) (A := #[.int .i64 x.op, .int .u64 (x.word : Int), .string (str x.name), .slice p x.args.len c]) (t := 26) (by rw [← hW0]; exact heap_alloc_new w _) hb)
  have x0 : W0.cell? ⟨w.heap.size, 0, none⟩ = some (.int .i64 x.op) := HX.out _ (Below.refl _ _) 0 _ rfl
  have x1 : W0.cell? ⟨w.heap.size, 1, none⟩ = some (.int .u64 (x.word : Int)) := HX.out _ (Below.refl _ _) 1 _ rfl
  have x2 : W0.cell? ⟨w.heap.size, 2, none⟩ = some (.string (str x.name)) := HX.out _ (Below.refl _ _) 2 _ rfl
  have x3 : W0.cell? ⟨w.heap.size, 3, none⟩ = some (.slice p x.args.len c) := HX.out _ (Below.refl _ _) 3 _ rfl
  have HRd := Lib.hid (fun (w1 : World) (hb : Below w.heap.size w w1) => rdepth_any x hx6 p c w1.heap.size w1 (h.later (hb.mono hN) (Nat.le_trans hN hb.size)) (Nat.le_refl _))
  have HRm := Lib.hid (fun (w1 : World) (hb : Below w.heap.size w w1) => rmayExpr_any x p c w1.heap.size w1 (h.later (hb.mono hN) (Nat.le_trans hN hb.size)) (Nat.le_refl _))
  have hdb := Ex.depth_le x
  unfold Ex.val at HRd HRm ⊢
  generalize x.may = m at HRm ⊢
  generalize x.depth = d at HRd hdb ⊢
  clear h hN
  by_cases hd : d ≤ 64
  · have HV := Lib.hid (show m = (decide (d ≤ 64) && m) by rw [decide_eq_true hd]; rfl)
    go_enter Tryz.func13, Tryz.ntmps13
    go_wp2_with fail
    refine (HRd.out _ HW0.out).mono ?_
    rintro e w1 ⟨rfl, hB⟩
    have HB1 := Lib.hid (HW0.out.trans (hB.mono HW0.out.size))
    have y0 : w1.cell? ⟨w.heap.size, 0, none⟩ = some (.int .i64 x.op) := HX.out _ hB 0 _ rfl
    have y1 : w1.cell? ⟨w.heap.size, 1, none⟩ = some (.int .u64 (x.word : Int)) := HX.out _ hB 1 _ rfl
    have y2 : w1.cell? ⟨w.heap.size, 2, none⟩ = some (.string (str x.name)) := HX.out _ hB 2 _ rfl
    have y3 : w1.cell? ⟨w.heap.size, 3, none⟩ = some (.slice p x.args.len c) := HX.out _ hB 3 _ rfl
    clear hB hW0 x0 x1 x2 x3
    go_wp2_with fail
    refine (HRm.out _ HB1.out).mono ?_
    rintro e w2 ⟨rfl, hB⟩
    have HB2 := Lib.hid (HB1.out.trans (hB.mono HB1.out.size))
    clear hB
    go_wp2_with fail
    go_ret
    exact ⟨ret_bool HV.out, HB2.out⟩
  · have HV := Lib.hid (show false = (decide (d ≤ 64) && m) by rw [decide_eq_false hd]; rfl)
    go_enter Tryz.func13, Tryz.ntmps13
    go_wp2_with fail
    refine (HRd.out _ HW0.out).mono ?_
    rintro e w1 ⟨rfl, hB⟩
    have HB1 := Lib.hid (HW0.out.trans (hB.mono HW0.out.size))
    clear hB hW0 x0 x1 x2 x3
    go_wp2_with fail
    go_ret
    exact ⟨by first | exact ret_bool HV.out | rfl, HB1.out⟩

set_option maxRecDepth 100000 in
set_option maxHeartbeats 12800000 in
theorem exprs_law (x : Ex) (p : Option Addr) (c : Nat) (w : World) (hG : Glob w) (h : x.Ok w w.heap.size p) :
    Calls Tryz.prog 3 #[x.val p c] w fun e w' => e = .returned (.bool true) ∧ Below w.heap.size w w' := by
  have hfine := h.fine
  have HK := Lib.hid (fun w' (hb : Below w.heap.size w w') => known_any w' (hG.later hb))
  obtain ⟨W0, hW0⟩ : ∃ W0, w.alloc (.cells #[.int .i64 x.op, .int .u64 (x.word : Int), .string (str x.name), .slice p x.args.len c] 26) = W0 := ⟨_, rfl⟩
  have HW0 := Lib.hid (show Below w.heap.size w W0 by rw [← hW0]; exact (Below.refl _ _).alloc (Nat.le_refl _) _)
  have HX := Lib.hid (fun w1 hb => cells_later (w0 := W0) (w1 := w1) (b := w.heap.size) (A := #[.int .i64 x.op, .int .u64 (x.word : Int), .string (str x.name), .slice p x.args.len c]) (t := 26) (by rw [← hW0]; exact heap_alloc_new w _) hb)
  have x0 : W0.cell? ⟨w.heap.size, 0, none⟩ = some (.int .i64 x.op) := HX.out _ (Below.refl _ _) 0 _ rfl
  have x1 : W0.cell? ⟨w.heap.size, 1, none⟩ = some (.int .u64 (x.word : Int)) := HX.out _ (Below.refl _ _) 1 _ rfl
  have x2 : W0.cell? ⟨w.heap.size, 2, none⟩ = some (.string (str x.name)) := HX.out _ (Below.refl _ _) 2 _ rfl
  have x3 : W0.cell? ⟨w.heap.size, 3, none⟩ = some (.slice p x.args.len c) := HX.out _ (Below.refl _ _) 3 _ rfl
  have HL := Lib.hid (fun (w1 : World) (hb : Below w.heap.size w w1) => longExpr_any x p c w.heap.size w1 (h.later hb (Nat.le_refl _)) hb.size)
  by_cases hlong : 5000 < x.total
  · rw [decide_eq_true hlong] at HL
    unfold Ex.val at HL ⊢
    clear h hG hfine hlong
    go_enter Tryz.func3, Tryz.ntmps3
    go_wp2_with fail
    refine (HL.out _ HW0.out).mono ?_
    rintro e w1 ⟨rfl, hB⟩
    have HD1 := Lib.hid hB
    clear hB hW0 x0 x1 x2 x3
    go_wp2_with fail
    refine (HK.out _ (HW0.out.trans (HD1.out.mono HW0.out.size))).mono ?_
    rintro z wz ⟨rfl, hB'⟩
    have HBz := Lib.hid ((HW0.out.trans (HD1.out.mono HW0.out.size)).trans (hB'.mono (HW0.out.trans (HD1.out.mono HW0.out.size)).size))
    clear hB'
    go_wp2_with fail
    go_ret
    exact ⟨rfl, HBz.out⟩
  · rw [decide_eq_false hlong] at HL
    have hsz := Ex.size_total x
    have hx6 : x.size ≤ 1000000 := by omega
    have htl := Ex.text_le x hfine
    have htl2 : x.text.length ≤ 1000000 := by omega
    have HE := Lib.hid (fun (w1 : World) (hb : Below w.heap.size w w1) => expr_any x p c w.heap.size w1 hx6 (h.later hb (Nat.le_refl _)) hb.size (hG.later hb) (fun _ => by omega))
    have HDe := Lib.hid (fun (w1 : World) (hb : Below w.heap.size w w1) => depth_any x hx6 p c w.heap.size w1 (h.later hb (Nat.le_refl _)) hb.size)
    have HRd := Lib.hid (fun (w1 : World) (hb : Below w.heap.size w w1) => rdepth_any x hx6 p c w.heap.size w1 (h.later hb (Nat.le_refl _)) hb.size)
    have HM := Lib.hid (fun (w1 : World) (hb : Below w.heap.size w w1) => rMayE_any x hx6 p c w.heap.size w1 (h.later hb (Nat.le_refl _)) hb.size)
    have HT := Lib.hid (fun (hm : x.may = true) (w1 : World) (hb : Below w.heap.size w w1) => rExpr_any x hm htl2 p c w.heap.size w1 (h.later hb (Nat.le_refl _)) hb.size (hG.later hb))
    have hdb := Ex.depth_le x
    have hxr : exprR x = (if 64 < x.depth ∨ x.may = false then [] else if 65536 < x.text.length then [] else x.text) := rfl
    have hxe : exprE x = (if 64 < x.depth ∨ x.may = false then 2 else if 65536 < x.text.length then 3 else 0) := rfl
    unfold Ex.val at HL HE HDe HRd HM HT ⊢
    generalize exprR x = er at HE hxr
    generalize exprE x = ee at HE hxe
    generalize x.may = m at HM HT hxr hxe
    generalize x.depth = dp at HDe HRd HM hdb hxr hxe
    generalize x.text = tx at HT htl2 hxr hxe
    clear h hG hfine hlong htl
    by_cases hmay : (decide (dp ≤ 64) && m) = true
    · have hm : m = true := by simp at hmay; exact hmay.2
      have hd : dp ≤ 64 := by simp at hmay; exact hmay.1
      rw [hmay] at HM
      subst hm
      rw [if_neg (by simp; omega)] at hxr hxe
      have HT2 := Lib.hid (HT.out rfl)
      by_cases hbig : 65536 < tx.length
      · rw [if_pos hbig] at hxr hxe
        subst hxr; subst hxe
        have hsz2 := size_str tx
        have hgt : 65536 < (str tx).size := by rw [hsz2]; exact hbig
        obtain ⟨TX, hTX⟩ : ∃ T, str tx = T := ⟨_, rfl⟩
        rw [hTX] at HT2 hgt
        have e0 : (str []).toList = [] := by rw [Lib.toList_data, str_data]
        clear hmay hTX hsz2 HT hbig
        go_enter Tryz.func3, Tryz.ntmps3
        go_wp2_with fail
        refine (HL.out _ HW0.out).mono ?_
        rintro z w1 ⟨rfl, hB⟩
        have HD1 := Lib.hid hB
        clear hB hW0 x0 x1 x2 x3
        have w1c0 : w1.cell? ⟨w.heap.size, 0, none⟩ = some (.int .i64 x.op) := HX.out _ HD1.out 0 _ rfl
        have w1c1 : w1.cell? ⟨w.heap.size, 1, none⟩ = some (.int .u64 (x.word : Int)) := HX.out _ HD1.out 1 _ rfl
        have w1c2 : w1.cell? ⟨w.heap.size, 2, none⟩ = some (.string (str x.name)) := HX.out _ HD1.out 2 _ rfl
        have w1c3 : w1.cell? ⟨w.heap.size, 3, none⟩ = some (.slice p x.args.len c) := HX.out _ HD1.out 3 _ rfl
        go_wp2_with fail
        refine (HE.out _ (HW0.out.trans (HD1.out.mono HW0.out.size))).mono ?_
        rintro z w2 ⟨rfl, hB⟩
        have HD2 := Lib.hid (HD1.out.trans (hB.mono HD1.out.size))
        clear hB w1c0 w1c1 w1c2 w1c3
        go_upto_region 4 with fail
        go_cut [18] from 14 to 17 (fun s18 wx => s18 = .bool false ∧ Hid (Below W0.heap.size W0 wx))
        case first =>
          have HS : Below W0.heap.size W0 w2.drew := HD2.out.drew
          refine wp_region_held_drew (S := fun W => Below W0.heap.size W0 W ∧ W.cell? ⟨w.heap.size, 0, none⟩ = some (.int .i64 x.op) ∧ W.cell? ⟨w.heap.size, 1, none⟩ = some (.int .u64 (x.word : Int)) ∧ W.cell? ⟨w.heap.size, 2, none⟩ = some (.string (str x.name)) ∧ W.cell? ⟨w.heap.size, 3, none⟩ = some (.slice p x.args.len c)) (by kernel_rfl) ?_ (fun hHeld => ?_)
          · exact ⟨HS, HX.out _ HS 0 _ rfl, HX.out _ HS 1 _ rfl, HX.out _ HS 2 _ rfl, HX.out _ HS 3 _ rfl⟩
          refine wpAnyH_take (i := 0) (oi := { dst := Option.some 14, op := Go.Op.load 26 (Go.Operand.tmp 1), type := 26, pos := "law.go:41", after := #[], guard := Option.none }) (v := ?_) rfl (by kernel_rfl) (by kernel_rfl) (by kernel_rfl) (fun _ _ _ h => h) (Or.inl ⟨by rfl, ?_⟩) (by assumption) ?_
          rotate_left
          · (intro w hSw; (try dsimp only at hSw); go_simp; try with_reducible rfl)
          try simp only [Act.put, List.setIfInBounds_toArray, List.set_cons_zero, List.set_cons_succ]
          refine wpAnyH_take (i := 2) (oi := { dst := Option.some 16, op := Go.Op.load 26 (Go.Operand.tmp 1), type := 26, pos := "law.go:41", after := #[], guard := Option.none }) (v := ?_) rfl (by kernel_rfl) (by kernel_rfl) (by kernel_rfl) (fun _ _ _ h => h) (Or.inl ⟨by rfl, ?_⟩) (by assumption) ?_
          rotate_left
          · (intro w hSw; (try dsimp only at hSw); go_simp; try with_reducible rfl)
          try simp only [Act.put, List.setIfInBounds_toArray, List.set_cons_zero, List.set_cons_succ]
          refine wpAnyH_ready (rs := [1]) (by kernel_rfl) (by simp) ?_
          refine AllReadyH.cons (o := { dst := Option.some 15, op := Go.Op.call { callee := Go.Callee.value (Go.Operand.func 11), args := #[Go.Operand.tmp 14], argTypes := #[26] }, type := 3, pos := "law.go:41", after := #[{ on := 0, ground := Go.Ground.data }], guard := Option.none }) rfl (fun K hK => ?_) AllReadyH.nil
          go_simp
          refine (HDe.out _ (HW0.out.trans (HS.mono HW0.out.size))).mono ?_
          rintro z wa ⟨rfl, hB'⟩
          replace HS := HS.trans (hB'.mono HS.size)
          clear hB'
          refine hK.out _ _ ?_ (fun hHeld => ?_)
          · exact ⟨HS, HX.out _ HS 0 _ rfl, HX.out _ HS 1 _ rfl, HX.out _ HS 2 _ rfl, HX.out _ HS 3 _ rfl⟩
          clear hK K
          try simp only [Act.put, List.setIfInBounds_toArray, List.set_cons_zero, List.set_cons_succ]
          refine wpAnyH_ready (rs := [3]) (by kernel_rfl) (by simp) ?_
          refine AllReadyH.cons (o := { dst := Option.some 17, op := Go.Op.call { callee := Go.Callee.value (Go.Operand.func 12), args := #[Go.Operand.tmp 16], argTypes := #[26] }, type := 3, pos := "law.go:41", after := #[{ on := 2, ground := Go.Ground.data }, { on := 1, ground := Go.Ground.chain }], guard := Option.none }) rfl (fun K hK => ?_) AllReadyH.nil
          go_simp
          refine (HRd.out _ (HW0.out.trans (HS.mono HW0.out.size))).mono ?_
          rintro z wa ⟨rfl, hB'⟩
          replace HS := HS.trans (hB'.mono HS.size)
          clear hB'
          refine hK.out _ _ ?_ (fun hHeld => ?_)
          · exact ⟨HS, HX.out _ HS 0 _ rfl, HX.out _ HS 1 _ rfl, HX.out _ HS 2 _ rfl, HX.out _ HS 3 _ rfl⟩
          clear hK K
          try simp only [Act.put, List.setIfInBounds_toArray, List.set_cons_zero, List.set_cons_succ]
          refine wpAnyH_take (i := 4) (oi := { dst := Option.some 18, op := Go.Op.binOp Go.BinOp.neq 3 (Go.Operand.tmp 15) (Go.Operand.tmp 17) 3, type := 4, pos := "law.go:41", after := #[{ on := 1, ground := Go.Ground.data }, { on := 3, ground := Go.Ground.data }], guard := Option.none }) (v := .bool false) rfl (by kernel_rfl) (by kernel_rfl) (by kernel_rfl) (fun _ _ _ h => h) (Or.inl ⟨by rfl, ?_⟩) (by assumption) ?_
          · (intro w hSw; (try dsimp only at hSw); go_simp)
          try simp only [Act.put, List.setIfInBounds_toArray, List.set_cons_zero, List.set_cons_succ]
          refine wpAnyH_done (by kernel_rfl) ?_ _
          go_wp2_with fail
          go_meet
          exact ⟨rfl, Lib.hid HS⟩
        case rest =>
          obtain ⟨rfl, HD3⟩ := hcut
          have wcc0 : wc.cell? ⟨w.heap.size, 0, none⟩ = some (.int .i64 x.op) := HX.out _ HD3.out 0 _ rfl
          have wcc1 : wc.cell? ⟨w.heap.size, 1, none⟩ = some (.int .u64 (x.word : Int)) := HX.out _ HD3.out 1 _ rfl
          have wcc2 : wc.cell? ⟨w.heap.size, 2, none⟩ = some (.string (str x.name)) := HX.out _ HD3.out 2 _ rfl
          have wcc3 : wc.cell? ⟨w.heap.size, 3, none⟩ = some (.slice p x.args.len c) := HX.out _ HD3.out 3 _ rfl
          go_wp2_with fail
          refine (HM.out _ (HW0.out.trans (HD3.out.mono HW0.out.size))).mono ?_
          rintro z w4 ⟨rfl, hB⟩
          have HD4 := Lib.hid (HD3.out.trans (hB.mono HD3.out.size))
          clear hB wcc0 wcc1 wcc2 wcc3
          have w4c0 : w4.cell? ⟨w.heap.size, 0, none⟩ = some (.int .i64 x.op) := HX.out _ HD4.out 0 _ rfl
          have w4c1 : w4.cell? ⟨w.heap.size, 1, none⟩ = some (.int .u64 (x.word : Int)) := HX.out _ HD4.out 1 _ rfl
          have w4c2 : w4.cell? ⟨w.heap.size, 2, none⟩ = some (.string (str x.name)) := HX.out _ HD4.out 2 _ rfl
          have w4c3 : w4.cell? ⟨w.heap.size, 3, none⟩ = some (.slice p x.args.len c) := HX.out _ HD4.out 3 _ rfl
          go_wp2_with fail
          refine (HT2.out _ (HW0.out.trans (HD4.out.mono HW0.out.size))).mono ?_
          rintro z w5 ⟨rfl, hB⟩
          have HD5 := Lib.hid (HD4.out.trans (hB.mono HD4.out.size))
          clear hB
          go_wp2_with (go_at_call 14; refine (num_any _ _).mono ?_; rintro e w' ⟨rfl, rfl⟩)
          refine (HK.out _ (HW0.out.trans (HD5.out.mono HW0.out.size))).mono ?_
          rintro z wz ⟨rfl, hB'⟩
          have HBz := Lib.hid ((HW0.out.trans (HD5.out.mono HW0.out.size)).trans (hB'.mono (HW0.out.trans (HD5.out.mono HW0.out.size)).size))
          clear hB'
          go_wp2_with fail
          go_ret
          exact ⟨rfl, HBz.out⟩
      · rw [if_neg hbig] at hxr hxe
        subst hxr; subst hxe
        have hsz2 := size_str er
        have hgt : ¬ 65536 < (str er).size := by rw [hsz2]; exact hbig
        have e1 := str_beq_eq er
        obtain ⟨TX, hTX⟩ : ∃ T, str er = T := ⟨_, rfl⟩
        rw [hTX] at HT2 HE hgt e1
        clear hmay hTX hsz2 HT hbig
        go_enter Tryz.func3, Tryz.ntmps3
        go_wp2_with fail
        refine (HL.out _ HW0.out).mono ?_
        rintro z w1 ⟨rfl, hB⟩
        have HD1 := Lib.hid hB
        clear hB hW0 x0 x1 x2 x3
        have w1c0 : w1.cell? ⟨w.heap.size, 0, none⟩ = some (.int .i64 x.op) := HX.out _ HD1.out 0 _ rfl
        have w1c1 : w1.cell? ⟨w.heap.size, 1, none⟩ = some (.int .u64 (x.word : Int)) := HX.out _ HD1.out 1 _ rfl
        have w1c2 : w1.cell? ⟨w.heap.size, 2, none⟩ = some (.string (str x.name)) := HX.out _ HD1.out 2 _ rfl
        have w1c3 : w1.cell? ⟨w.heap.size, 3, none⟩ = some (.slice p x.args.len c) := HX.out _ HD1.out 3 _ rfl
        go_wp2_with fail
        refine (HE.out _ (HW0.out.trans (HD1.out.mono HW0.out.size))).mono ?_
        rintro z w2 ⟨rfl, hB⟩
        have HD2 := Lib.hid (HD1.out.trans (hB.mono HD1.out.size))
        clear hB w1c0 w1c1 w1c2 w1c3
        go_upto_region 4 with fail
        go_cut [18] from 14 to 17 (fun s18 wx => s18 = .bool false ∧ Hid (Below W0.heap.size W0 wx))
        case first =>
          have HS : Below W0.heap.size W0 w2.drew := HD2.out.drew
          refine wp_region_held_drew (S := fun W => Below W0.heap.size W0 W ∧ W.cell? ⟨w.heap.size, 0, none⟩ = some (.int .i64 x.op) ∧ W.cell? ⟨w.heap.size, 1, none⟩ = some (.int .u64 (x.word : Int)) ∧ W.cell? ⟨w.heap.size, 2, none⟩ = some (.string (str x.name)) ∧ W.cell? ⟨w.heap.size, 3, none⟩ = some (.slice p x.args.len c)) (by kernel_rfl) ?_ (fun hHeld => ?_)
          · exact ⟨HS, HX.out _ HS 0 _ rfl, HX.out _ HS 1 _ rfl, HX.out _ HS 2 _ rfl, HX.out _ HS 3 _ rfl⟩
          refine wpAnyH_take (i := 0) (oi := { dst := Option.some 14, op := Go.Op.load 26 (Go.Operand.tmp 1), type := 26, pos := "law.go:41", after := #[], guard := Option.none }) (v := ?_) rfl (by kernel_rfl) (by kernel_rfl) (by kernel_rfl) (fun _ _ _ h => h) (Or.inl ⟨by rfl, ?_⟩) (by assumption) ?_
          rotate_left
          · (intro w hSw; (try dsimp only at hSw); go_simp; try with_reducible rfl)
          try simp only [Act.put, List.setIfInBounds_toArray, List.set_cons_zero, List.set_cons_succ]
          refine wpAnyH_take (i := 2) (oi := { dst := Option.some 16, op := Go.Op.load 26 (Go.Operand.tmp 1), type := 26, pos := "law.go:41", after := #[], guard := Option.none }) (v := ?_) rfl (by kernel_rfl) (by kernel_rfl) (by kernel_rfl) (fun _ _ _ h => h) (Or.inl ⟨by rfl, ?_⟩) (by assumption) ?_
          rotate_left
          · (intro w hSw; (try dsimp only at hSw); go_simp; try with_reducible rfl)
          try simp only [Act.put, List.setIfInBounds_toArray, List.set_cons_zero, List.set_cons_succ]
          refine wpAnyH_ready (rs := [1]) (by kernel_rfl) (by simp) ?_
          refine AllReadyH.cons (o := { dst := Option.some 15, op := Go.Op.call { callee := Go.Callee.value (Go.Operand.func 11), args := #[Go.Operand.tmp 14], argTypes := #[26] }, type := 3, pos := "law.go:41", after := #[{ on := 0, ground := Go.Ground.data }], guard := Option.none }) rfl (fun K hK => ?_) AllReadyH.nil
          go_simp
          refine (HDe.out _ (HW0.out.trans (HS.mono HW0.out.size))).mono ?_
          rintro z wa ⟨rfl, hB'⟩
          replace HS := HS.trans (hB'.mono HS.size)
          clear hB'
          refine hK.out _ _ ?_ (fun hHeld => ?_)
          · exact ⟨HS, HX.out _ HS 0 _ rfl, HX.out _ HS 1 _ rfl, HX.out _ HS 2 _ rfl, HX.out _ HS 3 _ rfl⟩
          clear hK K
          try simp only [Act.put, List.setIfInBounds_toArray, List.set_cons_zero, List.set_cons_succ]
          refine wpAnyH_ready (rs := [3]) (by kernel_rfl) (by simp) ?_
          refine AllReadyH.cons (o := { dst := Option.some 17, op := Go.Op.call { callee := Go.Callee.value (Go.Operand.func 12), args := #[Go.Operand.tmp 16], argTypes := #[26] }, type := 3, pos := "law.go:41", after := #[{ on := 2, ground := Go.Ground.data }, { on := 1, ground := Go.Ground.chain }], guard := Option.none }) rfl (fun K hK => ?_) AllReadyH.nil
          go_simp
          refine (HRd.out _ (HW0.out.trans (HS.mono HW0.out.size))).mono ?_
          rintro z wa ⟨rfl, hB'⟩
          replace HS := HS.trans (hB'.mono HS.size)
          clear hB'
          refine hK.out _ _ ?_ (fun hHeld => ?_)
          · exact ⟨HS, HX.out _ HS 0 _ rfl, HX.out _ HS 1 _ rfl, HX.out _ HS 2 _ rfl, HX.out _ HS 3 _ rfl⟩
          clear hK K
          try simp only [Act.put, List.setIfInBounds_toArray, List.set_cons_zero, List.set_cons_succ]
          refine wpAnyH_take (i := 4) (oi := { dst := Option.some 18, op := Go.Op.binOp Go.BinOp.neq 3 (Go.Operand.tmp 15) (Go.Operand.tmp 17) 3, type := 4, pos := "law.go:41", after := #[{ on := 1, ground := Go.Ground.data }, { on := 3, ground := Go.Ground.data }], guard := Option.none }) (v := .bool false) rfl (by kernel_rfl) (by kernel_rfl) (by kernel_rfl) (fun _ _ _ h => h) (Or.inl ⟨by rfl, ?_⟩) (by assumption) ?_
          · (intro w hSw; (try dsimp only at hSw); go_simp)
          try simp only [Act.put, List.setIfInBounds_toArray, List.set_cons_zero, List.set_cons_succ]
          refine wpAnyH_done (by kernel_rfl) ?_ _
          go_wp2_with fail
          go_meet
          exact ⟨rfl, Lib.hid HS⟩
        case rest =>
          obtain ⟨rfl, HD3⟩ := hcut
          have wcc0 : wc.cell? ⟨w.heap.size, 0, none⟩ = some (.int .i64 x.op) := HX.out _ HD3.out 0 _ rfl
          have wcc1 : wc.cell? ⟨w.heap.size, 1, none⟩ = some (.int .u64 (x.word : Int)) := HX.out _ HD3.out 1 _ rfl
          have wcc2 : wc.cell? ⟨w.heap.size, 2, none⟩ = some (.string (str x.name)) := HX.out _ HD3.out 2 _ rfl
          have wcc3 : wc.cell? ⟨w.heap.size, 3, none⟩ = some (.slice p x.args.len c) := HX.out _ HD3.out 3 _ rfl
          go_wp2_with fail
          refine (HM.out _ (HW0.out.trans (HD3.out.mono HW0.out.size))).mono ?_
          rintro z w4 ⟨rfl, hB⟩
          have HD4 := Lib.hid (HD3.out.trans (hB.mono HD3.out.size))
          clear hB wcc0 wcc1 wcc2 wcc3
          have w4c0 : w4.cell? ⟨w.heap.size, 0, none⟩ = some (.int .i64 x.op) := HX.out _ HD4.out 0 _ rfl
          have w4c1 : w4.cell? ⟨w.heap.size, 1, none⟩ = some (.int .u64 (x.word : Int)) := HX.out _ HD4.out 1 _ rfl
          have w4c2 : w4.cell? ⟨w.heap.size, 2, none⟩ = some (.string (str x.name)) := HX.out _ HD4.out 2 _ rfl
          have w4c3 : w4.cell? ⟨w.heap.size, 3, none⟩ = some (.slice p x.args.len c) := HX.out _ HD4.out 3 _ rfl
          go_wp2_with fail
          refine (HT2.out _ (HW0.out.trans (HD4.out.mono HW0.out.size))).mono ?_
          rintro z w5 ⟨rfl, hB⟩
          have HD5 := Lib.hid (HD4.out.trans (hB.mono HD4.out.size))
          clear hB
          go_wp2_with (go_at_call 14; refine (num_any _ _).mono ?_; rintro e w' ⟨rfl, rfl⟩)
          refine (HK.out _ (HW0.out.trans (HD5.out.mono HW0.out.size))).mono ?_
          rintro z wz ⟨rfl, hB'⟩
          have HBz := Lib.hid ((HW0.out.trans (HD5.out.mono HW0.out.size)).trans (hB'.mono (HW0.out.trans (HD5.out.mono HW0.out.size)).size))
          clear hB'
          go_wp2_with fail
          go_ret
          exact ⟨rfl, HBz.out⟩
    · have hmf : (decide (dp ≤ 64) && m) = false := by simpa using hmay
      rw [hmf] at HM
      rw [if_pos (by by_cases h1 : dp ≤ 64 <;> simp [h1] at hmf; exact .inr hmf; exact .inl (by omega))] at hxr hxe
      subst hxr; subst hxe
      have e0 : (str []).toList = [] := by rw [Lib.toList_data, str_data]
      clear hmay hmf HT
      go_enter Tryz.func3, Tryz.ntmps3
      go_wp2_with fail
      refine (HL.out _ HW0.out).mono ?_
      rintro z w1 ⟨rfl, hB⟩
      have HD1 := Lib.hid hB
      clear hB hW0 x0 x1 x2 x3
      have w1c0 : w1.cell? ⟨w.heap.size, 0, none⟩ = some (.int .i64 x.op) := HX.out _ HD1.out 0 _ rfl
      have w1c1 : w1.cell? ⟨w.heap.size, 1, none⟩ = some (.int .u64 (x.word : Int)) := HX.out _ HD1.out 1 _ rfl
      have w1c2 : w1.cell? ⟨w.heap.size, 2, none⟩ = some (.string (str x.name)) := HX.out _ HD1.out 2 _ rfl
      have w1c3 : w1.cell? ⟨w.heap.size, 3, none⟩ = some (.slice p x.args.len c) := HX.out _ HD1.out 3 _ rfl
      go_wp2_with fail
      refine (HE.out _ (HW0.out.trans (HD1.out.mono HW0.out.size))).mono ?_
      rintro z w2 ⟨rfl, hB⟩
      have HD2 := Lib.hid (HD1.out.trans (hB.mono HD1.out.size))
      clear hB w1c0 w1c1 w1c2 w1c3
      go_upto_region 4 with fail
      go_cut [18] from 14 to 17 (fun s18 wx => s18 = .bool false ∧ Hid (Below W0.heap.size W0 wx))
      case first =>
        have HS : Below W0.heap.size W0 w2.drew := HD2.out.drew
        refine wp_region_held_drew (S := fun W => Below W0.heap.size W0 W ∧ W.cell? ⟨w.heap.size, 0, none⟩ = some (.int .i64 x.op) ∧ W.cell? ⟨w.heap.size, 1, none⟩ = some (.int .u64 (x.word : Int)) ∧ W.cell? ⟨w.heap.size, 2, none⟩ = some (.string (str x.name)) ∧ W.cell? ⟨w.heap.size, 3, none⟩ = some (.slice p x.args.len c)) (by kernel_rfl) ?_ (fun hHeld => ?_)
        · exact ⟨HS, HX.out _ HS 0 _ rfl, HX.out _ HS 1 _ rfl, HX.out _ HS 2 _ rfl, HX.out _ HS 3 _ rfl⟩
        refine wpAnyH_take (i := 0) (oi := { dst := Option.some 14, op := Go.Op.load 26 (Go.Operand.tmp 1), type := 26, pos := "law.go:41", after := #[], guard := Option.none }) (v := ?_) rfl (by kernel_rfl) (by kernel_rfl) (by kernel_rfl) (fun _ _ _ h => h) (Or.inl ⟨by rfl, ?_⟩) (by assumption) ?_
        rotate_left
        · (intro w hSw; (try dsimp only at hSw); go_simp; try with_reducible rfl)
        try simp only [Act.put, List.setIfInBounds_toArray, List.set_cons_zero, List.set_cons_succ]
        refine wpAnyH_take (i := 2) (oi := { dst := Option.some 16, op := Go.Op.load 26 (Go.Operand.tmp 1), type := 26, pos := "law.go:41", after := #[], guard := Option.none }) (v := ?_) rfl (by kernel_rfl) (by kernel_rfl) (by kernel_rfl) (fun _ _ _ h => h) (Or.inl ⟨by rfl, ?_⟩) (by assumption) ?_
        rotate_left
        · (intro w hSw; (try dsimp only at hSw); go_simp; try with_reducible rfl)
        try simp only [Act.put, List.setIfInBounds_toArray, List.set_cons_zero, List.set_cons_succ]
        refine wpAnyH_ready (rs := [1]) (by kernel_rfl) (by simp) ?_
        refine AllReadyH.cons (o := { dst := Option.some 15, op := Go.Op.call { callee := Go.Callee.value (Go.Operand.func 11), args := #[Go.Operand.tmp 14], argTypes := #[26] }, type := 3, pos := "law.go:41", after := #[{ on := 0, ground := Go.Ground.data }], guard := Option.none }) rfl (fun K hK => ?_) AllReadyH.nil
        go_simp
        refine (HDe.out _ (HW0.out.trans (HS.mono HW0.out.size))).mono ?_
        rintro z wa ⟨rfl, hB'⟩
        replace HS := HS.trans (hB'.mono HS.size)
        clear hB'
        refine hK.out _ _ ?_ (fun hHeld => ?_)
        · exact ⟨HS, HX.out _ HS 0 _ rfl, HX.out _ HS 1 _ rfl, HX.out _ HS 2 _ rfl, HX.out _ HS 3 _ rfl⟩
        clear hK K
        try simp only [Act.put, List.setIfInBounds_toArray, List.set_cons_zero, List.set_cons_succ]
        refine wpAnyH_ready (rs := [3]) (by kernel_rfl) (by simp) ?_
        refine AllReadyH.cons (o := { dst := Option.some 17, op := Go.Op.call { callee := Go.Callee.value (Go.Operand.func 12), args := #[Go.Operand.tmp 16], argTypes := #[26] }, type := 3, pos := "law.go:41", after := #[{ on := 2, ground := Go.Ground.data }, { on := 1, ground := Go.Ground.chain }], guard := Option.none }) rfl (fun K hK => ?_) AllReadyH.nil
        go_simp
        refine (HRd.out _ (HW0.out.trans (HS.mono HW0.out.size))).mono ?_
        rintro z wa ⟨rfl, hB'⟩
        replace HS := HS.trans (hB'.mono HS.size)
        clear hB'
        refine hK.out _ _ ?_ (fun hHeld => ?_)
        · exact ⟨HS, HX.out _ HS 0 _ rfl, HX.out _ HS 1 _ rfl, HX.out _ HS 2 _ rfl, HX.out _ HS 3 _ rfl⟩
        clear hK K
        try simp only [Act.put, List.setIfInBounds_toArray, List.set_cons_zero, List.set_cons_succ]
        refine wpAnyH_take (i := 4) (oi := { dst := Option.some 18, op := Go.Op.binOp Go.BinOp.neq 3 (Go.Operand.tmp 15) (Go.Operand.tmp 17) 3, type := 4, pos := "law.go:41", after := #[{ on := 1, ground := Go.Ground.data }, { on := 3, ground := Go.Ground.data }], guard := Option.none }) (v := .bool false) rfl (by kernel_rfl) (by kernel_rfl) (by kernel_rfl) (fun _ _ _ h => h) (Or.inl ⟨by rfl, ?_⟩) (by assumption) ?_
        · (intro w hSw; (try dsimp only at hSw); go_simp)
        try simp only [Act.put, List.setIfInBounds_toArray, List.set_cons_zero, List.set_cons_succ]
        refine wpAnyH_done (by kernel_rfl) ?_ _
        go_wp2_with fail
        go_meet
        exact ⟨rfl, Lib.hid HS⟩
      case rest =>
        obtain ⟨rfl, HD3⟩ := hcut
        have wcc0 : wc.cell? ⟨w.heap.size, 0, none⟩ = some (.int .i64 x.op) := HX.out _ HD3.out 0 _ rfl
        have wcc1 : wc.cell? ⟨w.heap.size, 1, none⟩ = some (.int .u64 (x.word : Int)) := HX.out _ HD3.out 1 _ rfl
        have wcc2 : wc.cell? ⟨w.heap.size, 2, none⟩ = some (.string (str x.name)) := HX.out _ HD3.out 2 _ rfl
        have wcc3 : wc.cell? ⟨w.heap.size, 3, none⟩ = some (.slice p x.args.len c) := HX.out _ HD3.out 3 _ rfl
        go_wp2_with fail
        refine (HM.out _ (HW0.out.trans (HD3.out.mono HW0.out.size))).mono ?_
        rintro z w4 ⟨rfl, hB⟩
        have HD4 := Lib.hid (HD3.out.trans (hB.mono HD3.out.size))
        clear hB wcc0 wcc1 wcc2 wcc3
        go_wp2_with (go_at_call 14; refine (num_any _ _).mono ?_; rintro e w' ⟨rfl, rfl⟩)
        refine (HK.out _ (HW0.out.trans (HD4.out.mono HW0.out.size))).mono ?_
        rintro z wz ⟨rfl, hB'⟩
        have HBz := Lib.hid ((HW0.out.trans (HD4.out.mono HW0.out.size)).trans (hB'.mono (HW0.out.trans (HD4.out.mono HW0.out.size)).size))
        clear hB'
        go_wp2_with fail
        go_ret
        exact ⟨rfl, HBz.out⟩
end Go.Proofs.YtlhbledakddbbaaGreatDoor
/- What the rows' lists give a walk; a world that meets them. -/
namespace Go.Proofs.YtlhbledakddbbaaGreatDoor
open Go.ChangeShapes Go.WideShapes Go.RowKit

theorem own : ownKnob Tryz.prog.godebug = none := by kernel_rfl
theorem laidO : laidOutB Tryz.prog = true := by kernel_rfl
theorem gP : Tryz.prog.globalNamed "internal/strconv.uint64pow10" = some 0 := by kernel_rfl
theorem gPT : (Tryz.prog.globals[0]?).map (·.type) = some 174 := by kernel_rfl

theorem glob_of_laid {W : World} (h : laidMetH Tryz.prog Rows.prettySameRow.laid W) : Glob W := by
  have h' : laidMet Tryz.prog [("math/bits.deBruijn32tab", Rows.laid_math_bits_deBruijn32tab), ("math/bits.deBruijn64tab", Rows.laid_math_bits_deBruijn64tab), ("internal/strconv.uint64pow10", Rows.laid_internal_strconv_uint64pow10)] W := h
  exact Lib.tabBelow_of_tabIs (Lib.tabIs_of_head gP gPT Tryz.underlying174 Tryz.underlying23 (by kernel_rfl) (by kernel_rfl)
    (show laidMet Tryz.prog (("internal/strconv.uint64pow10", Lib.tabData .u64 Lib.pow10Tab) :: []) W from h'.tail.tail))

def put1 (cs : Array Value) : Obj → Obj
  | .cells _ t frozen => .cells cs t frozen
  | o => o
noncomputable def laidWorld (os : Os) : World :=
  let w0 := World.holding Tryz.prog os ⟨#[], #[], []⟩
  { w0 with heap := ((w0.heap.modify 0 (put1 #[.int .u64 1, .int .u64 10, .int .u64 100, .int .u64 1000, .int .u64 10000, .int .u64 100000, .int .u64 1000000, .int .u64 10000000, .int .u64 100000000, .int .u64 1000000000, .int .u64 10000000000, .int .u64 100000000000, .int .u64 1000000000000, .int .u64 10000000000000, .int .u64 100000000000000, .int .u64 1000000000000000, .int .u64 10000000000000000, .int .u64 100000000000000000, .int .u64 1000000000000000000, .int .u64 10000000000000000000])).modify 2 (put1 #[.int .u8 0, .int .u8 1, .int .u8 28, .int .u8 2, .int .u8 29, .int .u8 14, .int .u8 24, .int .u8 3, .int .u8 30, .int .u8 22, .int .u8 20, .int .u8 15, .int .u8 25, .int .u8 17, .int .u8 4, .int .u8 8, .int .u8 31, .int .u8 27, .int .u8 13, .int .u8 23, .int .u8 21, .int .u8 19, .int .u8 16, .int .u8 7, .int .u8 26, .int .u8 12, .int .u8 18, .int .u8 6, .int .u8 11, .int .u8 5, .int .u8 10, .int .u8 9])).modify 3 (put1 #[.int .u8 0, .int .u8 1, .int .u8 56, .int .u8 2, .int .u8 57, .int .u8 49, .int .u8 28, .int .u8 3, .int .u8 61, .int .u8 58, .int .u8 42, .int .u8 50, .int .u8 38, .int .u8 29, .int .u8 17, .int .u8 4, .int .u8 62, .int .u8 47, .int .u8 59, .int .u8 36, .int .u8 45, .int .u8 43, .int .u8 51, .int .u8 22, .int .u8 53, .int .u8 39, .int .u8 33, .int .u8 30, .int .u8 24, .int .u8 18, .int .u8 12, .int .u8 5, .int .u8 63, .int .u8 55, .int .u8 48, .int .u8 27, .int .u8 60, .int .u8 41, .int .u8 37, .int .u8 16, .int .u8 46, .int .u8 35, .int .u8 44, .int .u8 21, .int .u8 52, .int .u8 32, .int .u8 23, .int .u8 11, .int .u8 54, .int .u8 26, .int .u8 40, .int .u8 15, .int .u8 34, .int .u8 20, .int .u8 31, .int .u8 10, .int .u8 25, .int .u8 14, .int .u8 19, .int .u8 9, .int .u8 13, .int .u8 8, .int .u8 7, .int .u8 6]) }
theorem laid_met (os : Os) (args : Array Value) : laidMetH Tryz.prog Rows.prettySameRow.laid ((laidWorld os).forCall (fun _ _ => 0) ⟨#[], args, []⟩).memory :=
  laidMetH_of_parts (laidMet_of_run' 8 (by kernel_rfl) (by kernel_rfl)) (by kernel_rfl)
end Go.Proofs.YtlhbledakddbbaaGreatDoor
/- How much statements, functions and programs have: the document's count and Long. -/
namespace Go.Proofs.YtlhbledakddbbaaGreatDoor
open Go.RowKit

def strsT : List (List UInt8) → Nat
  | [] => 0
  | x :: r => 1 + x.length + strsT r
mutual
def St.total : St → Nat
  | .mk _ nm ns e a g _ _ bd el => 1 + nm.length + e.total + a.total + strsT ns + g.total + bd.total + el.total
def Sts.total : Sts → Nat
  | .nil => 0
  | .cons x r => x.total + r.total
end
theorem wrap_add (a b : Nat) (h : a + b ≤ 1000000) : IntKind.i64.wrap ((a : Int) + (b : Int)) = ((a + b : Nat) : Int) := by
  have : ((a + b : Nat) : Int) = (a : Int) + (b : Int) := by omega
  rw [this]
  exact IntWalk.i64_in _ (by omega)
/-- the count stands at v, so much is to come: it is right as far as M -/
def Cnt (M tot v rest : Nat) : Prop := (v ≤ M ∧ tot = v + rest) ∨ (M < v ∧ M < tot)
theorem rname_nat (l : List UInt8) (M : Nat) (hM : M ≤ 5000) (w : World) : Calls Tryz.prog 42 #[.string (str l), .int .i64 M] w fun e w' => e = .returned (.int .i64 ((1 + min l.length M : Nat) : Int)) ∧ w = w' := by
  have := rname_any (str l) M hM w
  rw [size_str] at this
  exact this
def RCS (n : Nat) : Prop := ∀ l : Sts, l.size < n → ∀ (M : Nat), M ≤ 5000 → ∀ (p : Option Addr) (c N : Nat) (w : World), l.In w N p → N ≤ w.heap.size →
    Calls Tryz.prog 43 #[.slice p l.len c, .int .i64 M] w fun e w' => (∃ v : Nat, e = .returned (.int .i64 v) ∧ v ≤ 4 * M + 3 ∧ Cnt M l.total v 0) ∧ Below w.heap.size w w'
set_option maxRecDepth 100000 in
set_option maxHeartbeats 12800000 in
theorem rcs_step (n : Nat) (ih : RCS n) : RCS (n + 1) := by
  intro l hsz M hM p cl N w h1 hN
  have S1 := Lib.hid h1
  have IH := Lib.hid ih
  have hm1 := h1.1
  have HNN := Lib.hid hN
  have hls : l.size ≤ n := by omega
  clear h1 ih hN hsz
  go_enter Tryz.func43, Tryz.ntmps43
  go_wp2_with fail
  go_loopw [5, 6] (fun t i wr => ∃ (k v : Nat) (r : Sts), t = .int .i64 v ∧ i = .int .i64 k ∧ k + r.len = l.len ∧ r.size ≤ n ∧ Hid (∀ b o, p = some ⟨b, o, none⟩ → l.At w N b o → r.At w N b (o + k * 16)) ∧ v ≤ 4 * M + 3 ∧ Hid (Cnt M l.total v r.total) ∧ Hid (Below w.heap.size w wr)) (fun _ i _ => l.len - (intOf i).toNat)
  case atStart => exact ⟨0, 0, l, rfl, rfl, by omega, hls, Lib.hid fun b o _ h => by rw [Nat.zero_mul]; exact h, by omega, Lib.hid (.inl ⟨by omega, by omega⟩), Lib.hid (Below.refl _ _)⟩
  case round =>
    obtain ⟨k, v, r, rfl, rfl, hk, hrs, hat, hv, hE, hB⟩ := hrel
    cases r with
    | nil =>
      simp only [Sts.len] at hk
      have hge : ¬ k < l.len := by omega
      go_wp2_with fail
      go_ret
      exact ⟨⟨v, rfl, hv, by have := hE.out; simpa only [Sts.total] using this⟩, hB.out⟩
    | cons x r =>
      simp only [Sts.len] at hk
      simp only [Sts.size] at hrs
      have hlt : k < l.len := by omega
      obtain ⟨wo, rfl⟩ : ∃ wo : World, wo = wr := ⟨_, rfl⟩
      by_cases hvM : v ≤ M
      · rcases S1.out.2 with h30 | ⟨b, o, rfl, hb, ha⟩
        · omega
        obtain ⟨hx, hr⟩ := hat.out b o rfl ha
        have HR := Lib.hid hr
        obtain ⟨s, c1, ok1⟩ := St.At.openP (St.At.later (hB.out.mono HNN.out) (Nat.le_trans HNN.out hB.out.size) x b _ hb hx)
        have hbl : b < wo.heap.size := by have := hB.out.size; have := HNN.out; omega
        obtain ⟨A1, hA1⟩ : ∃ A1, x.cells s = A1 := ⟨_, rfl⟩
        have HZ1 := Lib.hid (show A1.size = 16 by rw [← hA1]; rfl)
        have HO1 := Lib.hid (show A1.all (·.oneCell') = true by rw [← hA1]; exact oneSt _ _)
        have F1 := Lib.hid (show wo.rangeAt b (o + k * 16) A1.toList from fun j z hz => c1 j z (by rw [hA1, ← Array.getElem?_toList]; exact hz))
        have HI1 := Lib.hid (infoSt.trans (by rw [HZ1.out]) : (Tryz.prog.info? 54).map (·.size) = some A1.size)
        obtain ⟨W1, hW1⟩ : ∃ W1, wo.alloc (Obj.cells A1 54) = W1 := ⟨_, rfl⟩
        have HW1 := Lib.hid (show Below w.heap.size w W1 by rw [← hW1]; exact hB.out.trans (((Below.refl _ wo).alloc (Nat.le_refl _) _).mono hB.out.size))
        have HWr := Lib.hid (show Below wo.heap.size wo W1 by rw [← hW1]; exact (Below.refl _ wo).alloc (Nat.le_refl _) _)
        have hws : wo.heap.size < W1.heap.size := by rw [← hW1]; simp
        have HXA := Lib.hid (fun w1 hb => cells_later (w0 := W1) (w1 := w1) (b := wo.heap.size) (A := A1) (t := 54) (by rw [← hW1]; exact heap_alloc_new wo _) hb)
        go_wp2_with (first | (refine wpl_load rfl 54 _ rfl b (o + k * 16) rfl A1 _ F1.out Tryz.underlying54 rfl HI1.out ?_) | (refine wpl_store_new rfl 54 _ _ rfl _ A1 _ rfl rfl (by rw [HZ1.out]; rfl) HI1.out HO1.out ?_))
        rw [hW1]
        obtain ⟨kd, nm, ns, e, a, g, lo, hi, bd, el⟩ := x
        have HXC := Lib.hid (show ∀ w1, Below W1.heap.size W1 w1 → ∀ j z, (#[.int .i64 kd, .string (str nm), .slice s.pn ns.length s.cn, .int .i64 e.op, .int .u64 (e.word : Int), .string (str e.name), .slice s.pe e.args.len s.ce, .int .i64 a.op, .int .u64 (a.word : Int), .string (str a.name), .slice s.pa a.args.len s.ca, .slice s.pg g.len s.cg, .int .u64 (lo : Int), .int .u64 (hi : Int), .slice s.pb bd.len s.cb, .slice s.pl el.len s.cl] : Array Value)[j]? = some z → w1.cell? ⟨wo.heap.size, j, none⟩ = some z from fun w1 hb j z hz => HXA.out w1 hb j z (by rw [← hA1]; exact hz))
        simp only [St.size] at hrs
        have HN := Lib.hid (fun w => rname_nat nm M hM w)
        have HE := Lib.hid (fun (w1 : World) (hb : Below wo.heap.size wo w1) => rcount_to _ e (Nat.lt_succ_self _) M hM s.pe s.ce wo.heap.size w1 (ok1.2.1.later hb (Nat.le_refl _)) hb.size)
        have HA := Lib.hid (fun (w1 : World) (hb : Below wo.heap.size wo w1) => rcount_to _ a (Nat.lt_succ_self _) M hM s.pa s.ca wo.heap.size w1 (ok1.2.2.1.later hb (Nat.le_refl _)) hb.size)
        have HOK := Lib.hid ok1
        unfold Ex.val at HE HA
        clear ok1 F1 HZ1 HO1 HI1 HXA hA1 c1 hx hr ha
        have hn1 : 1 + min nm.length M ≤ M + 1 := by omega
        have hc1 : (1 + min nm.length M ≤ M ∧ 1 + nm.length = 1 + min nm.length M) ∨ (M < 1 + min nm.length M ∧ M < 1 + nm.length) := by omega
        generalize 1 + min nm.length M = n1 at HN hn1 hc1
        go_upto_region 6 with fail
        simp only [Act.put]
        go_cut [5] from 25 to 40 (fun s5 wx => ∃ v' : Nat, s5 = .int .i64 v' ∧ v' ≤ 4 * M + 3 ∧ Hid (Cnt M l.total v' (strsT ns + (g.total + (bd.total + (el.total + r.total))))) ∧ Hid (Below wo.heap.size wo wx) ∧ Hid (Below W1.heap.size W1 wx))
        case first =>
          have HS1 : Below wo.heap.size wo W1.drew := HWr.out.drew
          have HS2 : Below W1.heap.size W1 W1.drew := (Below.refl _ _).drew
          refine wp_region_held_drew (S := fun W => Below wo.heap.size wo W ∧ Below W1.heap.size W1 W ∧ W.cell? ⟨wo.heap.size, 1, none⟩ = some (.string (str nm)) ∧ W.cell? ⟨wo.heap.size, 3, none⟩ = some (.int .i64 e.op) ∧ W.cell? ⟨wo.heap.size, 4, none⟩ = some (.int .u64 (e.word : Int)) ∧ W.cell? ⟨wo.heap.size, 5, none⟩ = some (.string (str e.name)) ∧ W.cell? ⟨wo.heap.size, 6, none⟩ = some (.slice s.pe e.args.len s.ce) ∧ W.cell? ⟨wo.heap.size, 7, none⟩ = some (.int .i64 a.op) ∧ W.cell? ⟨wo.heap.size, 8, none⟩ = some (.int .u64 (a.word : Int)) ∧ W.cell? ⟨wo.heap.size, 9, none⟩ = some (.string (str a.name)) ∧ W.cell? ⟨wo.heap.size, 10, none⟩ = some (.slice s.pa a.args.len s.ca)) (by kernel_rfl) ?_ (fun hHeld => ?_)
          · exact ⟨HS1, HS2, HXC.out _ HS2 1 _ rfl, HXC.out _ HS2 3 _ rfl, HXC.out _ HS2 4 _ rfl, HXC.out _ HS2 5 _ rfl, HXC.out _ HS2 6 _ rfl, HXC.out _ HS2 7 _ rfl, HXC.out _ HS2 8 _ rfl, HXC.out _ HS2 9 _ rfl, HXC.out _ HS2 10 _ rfl⟩
          refine wpAnyH_take (i := 0) (oi := { dst := Option.some 25, op := Go.Op.move (Go.Operand.tmp 5), type := 3, pos := "ref.go:432", after := #[], guard := Option.none }) (v := ?_) rfl (by kernel_rfl) (by kernel_rfl) (by kernel_rfl) (fun _ _ _ h => h) (Or.inl ⟨by rfl, ?_⟩) (by assumption) ?_
          rotate_left
          · (intro w hSw; (try dsimp only at hSw); go_simp; try with_reducible rfl)
          try simp only [Act.put, List.setIfInBounds_toArray, List.set_cons_zero, List.set_cons_succ]
          refine wpAnyH_take (i := 1) (oi := { dst := Option.some 26, op := Go.Op.fieldAddr 54 (Go.Operand.tmp 7) 1, type := 0, pos := "ref.go:432", after := #[], guard := Option.none }) (v := ?_) rfl (by kernel_rfl) (by kernel_rfl) (by kernel_rfl) (fun _ _ _ h => h) (Or.inl ⟨by rfl, ?_⟩) (by assumption) ?_
          rotate_left
          · (intro w hSw; (try dsimp only at hSw); go_simp; try with_reducible rfl)
          try simp only [Act.put, List.setIfInBounds_toArray, List.set_cons_zero, List.set_cons_succ]
          refine wpAnyH_take (i := 2) (oi := { dst := Option.some 27, op := Go.Op.load 9 (Go.Operand.tmp 26), type := 9, pos := "ref.go:432", after := #[{ on := 1, ground := Go.Ground.data }], guard := Option.none }) (v := ?_) rfl (by kernel_rfl) (by kernel_rfl) (by kernel_rfl) (fun _ _ _ h => h) (Or.inl ⟨by rfl, ?_⟩) (by assumption) ?_
          rotate_left
          · (intro w hSw; (try dsimp only at hSw); go_simp; try with_reducible rfl)
          try simp only [Act.put, List.setIfInBounds_toArray, List.set_cons_zero, List.set_cons_succ]
          refine wpAnyH_take (i := 3) (oi := { dst := Option.some 28, op := Go.Op.move (Go.Operand.tmp 1), type := 3, pos := "ref.go:432", after := #[], guard := Option.none }) (v := ?_) rfl (by kernel_rfl) (by kernel_rfl) (by kernel_rfl) (fun _ _ _ h => h) (Or.inl ⟨by rfl, ?_⟩) (by assumption) ?_
          rotate_left
          · (intro w hSw; (try dsimp only at hSw); go_simp; try with_reducible rfl)
          try simp only [Act.put, List.setIfInBounds_toArray, List.set_cons_zero, List.set_cons_succ]
          refine wpAnyH_take (i := 6) (oi := { dst := Option.some 31, op := Go.Op.fieldAddr 54 (Go.Operand.tmp 7) 3, type := 0, pos := "ref.go:432", after := #[], guard := Option.none }) (v := ?_) rfl (by kernel_rfl) (by kernel_rfl) (by kernel_rfl) (fun _ _ _ h => h) (Or.inl ⟨by rfl, ?_⟩) (by assumption) ?_
          rotate_left
          · (intro w hSw; (try dsimp only at hSw); go_simp; try with_reducible rfl)
          try simp only [Act.put, List.setIfInBounds_toArray, List.set_cons_zero, List.set_cons_succ]
          refine wpAnyH_take (i := 7) (oi := { dst := Option.some 32, op := Go.Op.load 26 (Go.Operand.tmp 31), type := 26, pos := "ref.go:432", after := #[{ on := 6, ground := Go.Ground.data }], guard := Option.none }) (v := ?_) rfl (by kernel_rfl) (by kernel_rfl) (by kernel_rfl) (fun _ _ _ h => h) (Or.inl ⟨by rfl, ?_⟩) (by assumption) ?_
          rotate_left
          · (intro w hSw; (try dsimp only at hSw); go_simp; try with_reducible rfl)
          try simp only [Act.put, List.setIfInBounds_toArray, List.set_cons_zero, List.set_cons_succ]
          refine wpAnyH_take (i := 8) (oi := { dst := Option.some 33, op := Go.Op.move (Go.Operand.tmp 1), type := 3, pos := "ref.go:432", after := #[], guard := Option.none }) (v := ?_) rfl (by kernel_rfl) (by kernel_rfl) (by kernel_rfl) (fun _ _ _ h => h) (Or.inl ⟨by rfl, ?_⟩) (by assumption) ?_
          rotate_left
          · (intro w hSw; (try dsimp only at hSw); go_simp; try with_reducible rfl)
          try simp only [Act.put, List.setIfInBounds_toArray, List.set_cons_zero, List.set_cons_succ]
          refine wpAnyH_take (i := 11) (oi := { dst := Option.some 36, op := Go.Op.fieldAddr 54 (Go.Operand.tmp 7) 4, type := 0, pos := "ref.go:432", after := #[], guard := Option.none }) (v := ?_) rfl (by kernel_rfl) (by kernel_rfl) (by kernel_rfl) (fun _ _ _ h => h) (Or.inl ⟨by rfl, ?_⟩) (by assumption) ?_
          rotate_left
          · (intro w hSw; (try dsimp only at hSw); go_simp; try with_reducible rfl)
          try simp only [Act.put, List.setIfInBounds_toArray, List.set_cons_zero, List.set_cons_succ]
          refine wpAnyH_take (i := 12) (oi := { dst := Option.some 37, op := Go.Op.load 26 (Go.Operand.tmp 36), type := 26, pos := "ref.go:432", after := #[{ on := 11, ground := Go.Ground.data }], guard := Option.none }) (v := ?_) rfl (by kernel_rfl) (by kernel_rfl) (by kernel_rfl) (fun _ _ _ h => h) (Or.inl ⟨by rfl, ?_⟩) (by assumption) ?_
          rotate_left
          · (intro w hSw; (try dsimp only at hSw); go_simp; try with_reducible rfl)
          try simp only [Act.put, List.setIfInBounds_toArray, List.set_cons_zero, List.set_cons_succ]
          refine wpAnyH_take (i := 13) (oi := { dst := Option.some 38, op := Go.Op.move (Go.Operand.tmp 1), type := 3, pos := "ref.go:432", after := #[], guard := Option.none }) (v := ?_) rfl (by kernel_rfl) (by kernel_rfl) (by kernel_rfl) (fun _ _ _ h => h) (Or.inl ⟨by rfl, ?_⟩) (by assumption) ?_
          rotate_left
          · (intro w hSw; (try dsimp only at hSw); go_simp; try with_reducible rfl)
          try simp only [Act.put, List.setIfInBounds_toArray, List.set_cons_zero, List.set_cons_succ]
          refine wpAnyH_ready (rs := [4]) (by kernel_rfl) (by simp) ?_
          refine AllReadyH.cons (o := { dst := Option.some 29, op := Go.Op.call { callee := Go.Callee.value (Go.Operand.func 42), args := #[Go.Operand.tmp 27, Go.Operand.tmp 28], argTypes := #[9, 3] }, type := 3, pos := "ref.go:432", after := #[{ on := 2, ground := Go.Ground.data }, { on := 3, ground := Go.Ground.data }], guard := Option.none }) rfl (fun K hK => ?_) AllReadyH.nil
          go_simp
          refine (HN.out _).mono ?_
          rintro z w' ⟨rfl, rfl⟩
          refine hK.out _ _ ?_ (fun hHeld => ?_)
          · exact ⟨HS1, HS2, HXC.out _ HS2 1 _ rfl, HXC.out _ HS2 3 _ rfl, HXC.out _ HS2 4 _ rfl, HXC.out _ HS2 5 _ rfl, HXC.out _ HS2 6 _ rfl, HXC.out _ HS2 7 _ rfl, HXC.out _ HS2 8 _ rfl, HXC.out _ HS2 9 _ rfl, HXC.out _ HS2 10 _ rfl⟩
          clear hK K
          try simp only [Act.put, List.setIfInBounds_toArray, List.set_cons_zero, List.set_cons_succ]
          obtain ⟨m1, hme⟩ : ∃ m, m = v + n1 := ⟨_, rfl⟩
          have HM1 := Lib.hid hme
          have hmb1 : m1 ≤ 10010 := by omega
          clear hme
          refine wpAnyH_take (i := 5) (oi := { dst := Option.some 30, op := Go.Op.binOp Go.BinOp.add 3 (Go.Operand.tmp 25) (Go.Operand.tmp 29) 3, type := 3, pos := "ref.go:432", after := #[{ on := 0, ground := Go.Ground.data }, { on := 4, ground := Go.Ground.data }], guard := Option.none }) (v := .int .i64 ((m1 : Nat) : Int)) rfl (by kernel_rfl) (by kernel_rfl) (by kernel_rfl) (fun _ _ _ h => h) (Or.inl ⟨by rfl, ?_⟩) (by assumption) ?_
          · (intro w hSw; have hwr : IntKind.i64.wrap ((v : Int) + (n1 : Int)) = ((m1 : Nat) : Int) := by rw [HM1.out]; exact wrap_add v n1 (by omega))
            (try dsimp only at hSw); go_simp; (try rw [hwr])
          try simp only [Act.put, List.setIfInBounds_toArray, List.set_cons_zero, List.set_cons_succ]
          refine wpAnyH_ready (rs := [9]) (by kernel_rfl) (by simp) ?_
          refine AllReadyH.cons (o := { dst := Option.some 34, op := Go.Op.call { callee := Go.Callee.value (Go.Operand.func 30), args := #[Go.Operand.tmp 32, Go.Operand.tmp 33], argTypes := #[26, 3] }, type := 3, pos := "ref.go:432", after := #[{ on := 7, ground := Go.Ground.data }, { on := 8, ground := Go.Ground.data }, { on := 4, ground := Go.Ground.chain }], guard := Option.none }) rfl (fun K hK => ?_) AllReadyH.nil
          go_simp
          refine (HE.out _ HS1).mono ?_
          rintro z w2 ⟨⟨n2, rfl, hn2, hc2⟩, hB2⟩
          replace HS2 := HS2.trans (hB2.mono HS2.size)
          replace HS1 := HS1.trans (hB2.mono HS1.size)
          clear hB2
          refine hK.out _ _ ?_ (fun hHeld => ?_)
          · exact ⟨HS1, HS2, HXC.out _ HS2 1 _ rfl, HXC.out _ HS2 3 _ rfl, HXC.out _ HS2 4 _ rfl, HXC.out _ HS2 5 _ rfl, HXC.out _ HS2 6 _ rfl, HXC.out _ HS2 7 _ rfl, HXC.out _ HS2 8 _ rfl, HXC.out _ HS2 9 _ rfl, HXC.out _ HS2 10 _ rfl⟩
          clear hK K
          try simp only [Act.put, List.setIfInBounds_toArray, List.set_cons_zero, List.set_cons_succ]
          obtain ⟨m2, hme⟩ : ∃ m, m = m1 + n2 := ⟨_, rfl⟩
          have HM2 := Lib.hid hme
          have hmb2 : m2 ≤ 20020 := by omega
          clear hme
          refine wpAnyH_take (i := 10) (oi := { dst := Option.some 35, op := Go.Op.binOp Go.BinOp.add 3 (Go.Operand.tmp 30) (Go.Operand.tmp 34) 3, type := 3, pos := "ref.go:432", after := #[{ on := 5, ground := Go.Ground.data }, { on := 9, ground := Go.Ground.data }], guard := Option.none }) (v := .int .i64 ((m2 : Nat) : Int)) rfl (by kernel_rfl) (by kernel_rfl) (by kernel_rfl) (fun _ _ _ h => h) (Or.inl ⟨by rfl, ?_⟩) (by assumption) ?_
          · (intro w hSw; have hwr : IntKind.i64.wrap ((m1 : Int) + (n2 : Int)) = ((m2 : Nat) : Int) := by rw [HM2.out]; exact wrap_add m1 n2 (by omega))
            (try dsimp only at hSw); go_simp; (try rw [hwr])
          try simp only [Act.put, List.setIfInBounds_toArray, List.set_cons_zero, List.set_cons_succ]
          refine wpAnyH_ready (rs := [14]) (by kernel_rfl) (by simp) ?_
          refine AllReadyH.cons (o := { dst := Option.some 39, op := Go.Op.call { callee := Go.Callee.value (Go.Operand.func 30), args := #[Go.Operand.tmp 37, Go.Operand.tmp 38], argTypes := #[26, 3] }, type := 3, pos := "ref.go:432", after := #[{ on := 12, ground := Go.Ground.data }, { on := 13, ground := Go.Ground.data }, { on := 9, ground := Go.Ground.chain }], guard := Option.none }) rfl (fun K hK => ?_) AllReadyH.nil
          go_simp
          refine (HA.out _ HS1).mono ?_
          rintro z w3 ⟨⟨n3, rfl, hn3, hc3⟩, hB3⟩
          replace HS2 := HS2.trans (hB3.mono HS2.size)
          replace HS1 := HS1.trans (hB3.mono HS1.size)
          clear hB3
          refine hK.out _ _ ?_ (fun hHeld => ?_)
          · exact ⟨HS1, HS2, HXC.out _ HS2 1 _ rfl, HXC.out _ HS2 3 _ rfl, HXC.out _ HS2 4 _ rfl, HXC.out _ HS2 5 _ rfl, HXC.out _ HS2 6 _ rfl, HXC.out _ HS2 7 _ rfl, HXC.out _ HS2 8 _ rfl, HXC.out _ HS2 9 _ rfl, HXC.out _ HS2 10 _ rfl⟩
          clear hK K
          try simp only [Act.put, List.setIfInBounds_toArray, List.set_cons_zero, List.set_cons_succ]
          obtain ⟨m3, hme⟩ : ∃ m, m = m2 + n3 := ⟨_, rfl⟩
          have HM3 := Lib.hid hme
          have hmb3 : m3 ≤ 30030 := by omega
          clear hme
          refine wpAnyH_take (i := 15) (oi := { dst := Option.some 40, op := Go.Op.binOp Go.BinOp.add 3 (Go.Operand.tmp 35) (Go.Operand.tmp 39) 3, type := 3, pos := "ref.go:432", after := #[{ on := 10, ground := Go.Ground.data }, { on := 14, ground := Go.Ground.data }], guard := Option.none }) (v := .int .i64 ((m3 : Nat) : Int)) rfl (by kernel_rfl) (by kernel_rfl) (by kernel_rfl) (fun _ _ _ h => h) (Or.inl ⟨by rfl, ?_⟩) (by assumption) ?_
          · (intro w hSw; have hwr : IntKind.i64.wrap ((m2 : Int) + (n3 : Int)) = ((m3 : Nat) : Int) := by rw [HM3.out]; exact wrap_add m2 n3 (by omega))
            (try dsimp only at hSw); go_simp; (try rw [hwr])
          try simp only [Act.put, List.setIfInBounds_toArray, List.set_cons_zero, List.set_cons_succ]
          refine wpAnyH_take (i := 16) (oi := { dst := Option.some 5, op := Go.Op.assign (Go.Operand.tmp 40), type := 3, pos := "ref.go:432", after := #[{ on := 15, ground := Go.Ground.data }, { on := 14, ground := Go.Ground.chain }, { on := 0, ground := Go.Ground.phase }, { on := 1, ground := Go.Ground.phase }, { on := 2, ground := Go.Ground.phase }, { on := 3, ground := Go.Ground.phase }, { on := 4, ground := Go.Ground.phase }, { on := 5, ground := Go.Ground.phase }, { on := 6, ground := Go.Ground.phase }, { on := 7, ground := Go.Ground.phase }, { on := 8, ground := Go.Ground.phase }, { on := 9, ground := Go.Ground.phase }, { on := 10, ground := Go.Ground.phase }, { on := 11, ground := Go.Ground.phase }, { on := 12, ground := Go.Ground.phase }, { on := 13, ground := Go.Ground.phase }, { on := 14, ground := Go.Ground.phase }, { on := 15, ground := Go.Ground.phase }], guard := Option.none }) (v := ?_) rfl (by kernel_rfl) (by kernel_rfl) (by kernel_rfl) (fun _ _ _ h => h) (Or.inl ⟨by rfl, ?_⟩) (by assumption) ?_
          rotate_left
          · (intro w hSw; (try dsimp only at hSw); go_simp; try with_reducible rfl)
          try simp only [Act.put, List.setIfInBounds_toArray, List.set_cons_zero, List.set_cons_succ]
          refine wpAnyH_done (by kernel_rfl) ?_ _
          go_wp2_with fail
          go_meet
          exact ⟨m3, rfl, by have := HM1.out; have := HM2.out; have := HM3.out; omega, Lib.hid (by have := hE.out; have := HM1.out; have := HM2.out; have := HM3.out; unfold Cnt at *; simp only [Sts.total, St.total] at *; omega), Lib.hid HS1, Lib.hid HS2⟩
        case rest =>
          obtain ⟨v', rfl, hv', hE', HS1, HS2⟩ := hcut
          go_upto_block 2 with fail
          go_cut [5, 8] from 41 to 61 (fun s5 s8 wx => ∃ v2 j : Nat, s5 = .int .i64 v2 ∧ s8 = .int .i64 j ∧ v2 ≤ 4 * M + 3 ∧ Hid (Cnt M l.total v2 (g.total + (bd.total + (el.total + r.total)))) ∧ Hid (Below W1.heap.size W1 wx))
          case first =>
            go_wp2_with fail
            go_loopw [5, 8] (fun t i wx => ∃ (ds rs : List (List UInt8)) (v2 : Nat), t = .int .i64 v2 ∧ i = .int .i64 ds.length ∧ Hid (ns = ds ++ rs) ∧ ds.length + rs.length = ns.length ∧ v2 ≤ 4 * M + 3 ∧ Hid (Cnt M l.total v2 (strsT rs + (g.total + (bd.total + (el.total + r.total))))) ∧ Hid (Below W1.heap.size W1 wx)) (fun _ i _ => ns.length - (intOf i).toNat)
            case atStart => exact ⟨[], ns, v', rfl, rfl, Lib.hid rfl, by simp, hv', hE', HS2⟩
            case round =>
              obtain ⟨ds, rs, v2, rfl, rfl, EN, hk2, hv2, hE2, HB2⟩ := hrel
              have gx2 : wr.cell? ⟨wo.heap.size, 2, none⟩ = some (.slice s.pn ns.length s.cn) := HXC.out _ HB2.out 2 _ rfl
              have hm2 : ns.length ≤ 140737488355328 := HOK.out.1.2.1
              cases rs with
              | nil =>
                simp only [List.length_nil] at hk2
                have hge2 : ¬ ds.length < ns.length := by omega
                go_wp2_with fail
                go_meet
                exact ⟨v2, _, rfl, rfl, hv2, Lib.hid (by have := hE2.out; simpa [strsT] using this), HB2⟩
              | cons y rs =>
                simp only [List.length_cons] at hk2
                have hlt2 : ds.length < ns.length := by omega
                by_cases hM2 : v2 ≤ M
                · rcases (show RowIn wo.heap.size (StrAt wo) 1 ns s.pn from HOK.out.1.2).2 with h30 | ⟨b3, o3, hp3, hb3, ha3⟩
                  · omega
                  rw [EN.out] at ha3
                  have hb3' : b3 < W1.heap.size := by omega
                  have g3 : wr.cell? ⟨b3, o3 + ds.length, none⟩ = some (.string (str y)) := (HB2.out.cell hb3').trans ((HWr.out.cell hb3).trans (by have := (Row.drop _ _ _ ha3).1; rw [Nat.mul_one] at this; exact this))
                  rw [hp3] at gx2
                  have HN2 := Lib.hid (fun w => rname_nat y M hM w)
                  have hn2 : 1 + min y.length M ≤ M + 1 := by omega
                  have hc2 : (1 + min y.length M ≤ M ∧ 1 + y.length = 1 + min y.length M) ∨ (M < 1 + min y.length M ∧ M < 1 + y.length) := by omega
                  generalize 1 + min y.length M = n2 at HN2 hn2 hc2
                  obtain ⟨m2, hme⟩ : ∃ m, m = v2 + n2 := ⟨_, rfl⟩
                  have HM2 := Lib.hid hme
                  have hwr : IntKind.i64.wrap ((v2 : Int) + (n2 : Int)) = (m2 : Int) := by rw [hme]; exact wrap_add v2 n2 (by omega)
                  have hw2 : (v2 : Int) + (n2 : Int) = (m2 : Int) := by omega
                  have HH := Lib.hid hp3
                  have HE3 := Lib.hid (show Cnt M l.total m2 (strsT rs + (g.total + (bd.total + (el.total + r.total)))) by have := hE2.out; unfold Cnt at *; simp only [strsT] at this; omega)
                  have hmb : m2 ≤ 4 * M + 3 := by omega
                  clear ha3 hme hp3 hc2
                  go_wp2_with fail
                  refine (HN2.out _).mono ?_
                  rintro z w' ⟨rfl, rfl⟩
                  go_wp2_with fail
                  go_roundw
                  case rel => exact ⟨ds ++ [y], rs, m2, rfl, by rw [List.length_append]; go_num, Lib.hid (by rw [EN.out]; simp), by simp; omega, hmb, HE3, HB2⟩
                  case measure => simp [intOf]; omega
                · go_wp2_with fail
                  go_meet
                  exact ⟨v2, _, rfl, rfl, hv2, Lib.hid (by have := hE2.out; unfold Cnt at *; simp only [strsT] at this; omega), HB2⟩
          case rest =>
            obtain ⟨v2, j2, rfl, rfl, hv2, hE2, HS3⟩ := hcut
            clear hv' hE' HS1 HS2
            go_upto_block 4 with fail
            go_cut [5, 9] from 62 to 82 (fun s5 s9 wx => ∃ v3 j : Nat, s5 = .int .i64 v3 ∧ s9 = .int .i64 j ∧ v3 ≤ 4 * M + 3 ∧ Hid (Cnt M l.total v3 (bd.total + (el.total + r.total))) ∧ Hid (Below W1.heap.size W1 wx))
            case first =>
              go_wp2_with fail
              go_loopw [5, 9] (fun t i wx => ∃ (j v3 : Nat) (y : Exs), t = .int .i64 v3 ∧ i = .int .i64 j ∧ j + y.len = g.len ∧ Hid (∀ b o, s.pg = some ⟨b, o, none⟩ → g.At wo wo.heap.size b o → y.At wo wo.heap.size b (o + j * 4)) ∧ v3 ≤ 4 * M + 3 ∧ Hid (Cnt M l.total v3 (y.total + (bd.total + (el.total + r.total)))) ∧ Hid (Below W1.heap.size W1 wx)) (fun _ i _ => g.len - (intOf i).toNat)
              case atStart => exact ⟨0, v2, g, rfl, rfl, by omega, Lib.hid fun b o _ h => by rw [Nat.zero_mul]; exact h, hv2, hE2, HS3⟩
              case round =>
                obtain ⟨j, v3, y, rfl, rfl, hk3, hat3, hv3, hE3, HB3⟩ := hrel
                have gx3 : wr.cell? ⟨wo.heap.size, 11, none⟩ = some (.slice s.pg g.len s.cg) := HXC.out _ HB3.out 11 _ rfl
                have hm3 : g.len ≤ 140737488355328 := HOK.out.2.2.2.1.1
                cases y with
                | nil =>
                  simp only [Exs.len] at hk3
                  have hge3 : ¬ j < g.len := by omega
                  go_wp2_with fail
                  go_meet
                  exact ⟨v3, _, rfl, rfl, hv3, Lib.hid (by have := hE3.out; simpa [Exs.total] using this), HB3⟩
                | cons z y =>
                  simp only [Exs.len] at hk3
                  have hlt3 : j < g.len := by omega
                  by_cases hM3 : v3 ≤ M
                  · rcases (show g.In wo wo.heap.size s.pg from HOK.out.2.2.2.1).2 with h30 | ⟨b3, o3, hp3, hb3, ha3⟩
                    · omega
                    obtain ⟨hz, hzr⟩ := hat3.out b3 o3 hp3 ha3
                    have hBo : Below wo.heap.size wo wr := HWr.out.trans (HB3.out.mono HWr.out.size)
                    obtain ⟨q, cq, d0, d1, d2, d3, hokz⟩ := (Ex.At.later hBo hBo.size z b3 _ hb3 hz).open'
                    rw [hp3] at gx3
                    have HC3 := Lib.hid (rcount_to _ z (Nat.lt_succ_self _) M hM q cq wr.heap.size wr hokz (Nat.le_refl _))
                    unfold Ex.val at HC3
                    have HZR := Lib.hid hzr
                    have HH := Lib.hid hp3
                    clear ha3 hz hzr hokz hp3 hat3 hBo
                    go_wp2_with fail
                    refine HC3.out.mono ?_
                    rintro e3 w3 ⟨⟨n3, rfl, hn3, hc3⟩, hB4⟩
                    obtain ⟨m3, hme⟩ : ∃ m, m = v3 + n3 := ⟨_, rfl⟩
                    have hwr : IntKind.i64.wrap ((v3 : Int) + (n3 : Int)) = (m3 : Int) := by rw [hme]; exact wrap_add v3 n3 (by omega)
                    have hw3 : (v3 : Int) + (n3 : Int) = (m3 : Int) := by omega
                    have HE4 := Lib.hid (show Cnt M l.total m3 (y.total + (bd.total + (el.total + r.total))) by have := hE3.out; unfold Cnt at *; simp only [Exs.total] at this; omega)
                    have hmb : m3 ≤ 4 * M + 3 := by omega
                    have HB5 := Lib.hid (HB3.out.trans (hB4.mono HB3.out.size))
                    clear hB4 hme hc3 HC3 d0 d1 d2 d3
                    go_wp2_with fail
                    go_roundw
                    case rel => exact ⟨j + 1, m3, y, rfl, by go_num, by omega, Lib.hid fun b o hbo _ => by have := HH.out.symm.trans hbo; cases this; rw [show o3 + (j + 1) * 4 = o3 + j * 4 + 4 by omega]; exact HZR.out, hmb, HE4, HB5⟩
                    case measure => simp [intOf]; omega
                  · go_wp2_with fail
                    go_meet
                    exact ⟨v3, _, rfl, rfl, hv3, Lib.hid (by have := hE3.out; unfold Cnt at *; simp only [Exs.total] at this; omega), HB3⟩
            case rest =>
              obtain ⟨v3, j3, rfl, rfl, hv3, hE3, HS4⟩ := hcut
              clear hv2 hE2 HS3
              have gx14 : wc.cell? ⟨wo.heap.size, 14, none⟩ = some (.slice s.pb bd.len s.cb) := HXC.out _ HS4.out 14 _ rfl
              have gx15 : wc.cell? ⟨wo.heap.size, 15, none⟩ = some (.slice s.pl el.len s.cl) := HXC.out _ HS4.out 15 _ rfl
              have HBd := Lib.hid (fun (K : Nat) (hK : K ≤ 5000) (w1 : World) (hb : Below wo.heap.size wo w1) => IH.out bd (by omega) K hK s.pb s.cb wo.heap.size w1 (Sts.In.later HOK.out.2.2.2.2.1 hb (Nat.le_refl _)) hb.size)
              have HEl := Lib.hid (fun (K : Nat) (hK : K ≤ 5000) (w1 : World) (hb : Below wo.heap.size wo w1) => IH.out el (by omega) K hK s.pl s.cl wo.heap.size w1 (Sts.In.later HOK.out.2.2.2.2.2.1 hb (Nat.le_refl _)) hb.size)
              have HBc := Lib.hid (HWr.out.trans (HS4.out.mono HWr.out.size))
              by_cases h3 : v3 ≤ M
              · have hsub : ((M - v3 : Nat) : Int) = (M : Int) - (v3 : Int) := by omega
                have HC := Lib.hid (HBd.out (M - v3) (by omega) wc HBc.out)
                rw [hsub] at HC
                have hw0 : IntKind.i64.wrap ((M : Int) - (v3 : Int)) = (M : Int) - (v3 : Int) := IntWalk.i64_in _ (by omega)
                go_wp2_with fail
                refine HC.out.mono ?_
                rintro e4 w4 ⟨⟨n4, rfl, hn4, hc4⟩, hB4⟩
                obtain ⟨v4, hme⟩ : ∃ m, m = v3 + n4 := ⟨_, rfl⟩
                have hwr4 : IntKind.i64.wrap ((v3 : Int) + (n4 : Int)) = (v4 : Int) := by rw [hme]; exact wrap_add v3 n4 (by omega)
                have hw4 : (v3 : Int) + (n4 : Int) = (v4 : Int) := by omega
                have hv4 : v4 ≤ 4 * M + 3 := by omega
                have HE4 := Lib.hid (show Cnt M l.total v4 (el.total + r.total) by have := hE3.out; unfold Cnt at *; omega)
                have HB4 := Lib.hid (HBc.out.trans (hB4.mono HBc.out.size))
                have gy15 : w4.cell? ⟨wo.heap.size, 15, none⟩ = some (.slice s.pl el.len s.cl) := HXC.out _ (HS4.out.trans (hB4.mono HS4.out.size)) 15 _ rfl
                clear hB4 hme hc4 HC hw0 hsub gx14 gx15
                by_cases h4 : v4 ≤ M
                · have hsub : ((M - v4 : Nat) : Int) = (M : Int) - (v4 : Int) := by omega
                  have HC := Lib.hid (HEl.out (M - v4) (by omega) w4 HB4.out)
                  rw [hsub] at HC
                  have hw0 : IntKind.i64.wrap ((M : Int) - (v4 : Int)) = (M : Int) - (v4 : Int) := IntWalk.i64_in _ (by omega)
                  go_wp2_with fail
                  refine HC.out.mono ?_
                  rintro e5 w5 ⟨⟨n5, rfl, hn5, hc5⟩, hB5⟩
                  obtain ⟨v5, hme⟩ : ∃ m, m = v4 + n5 := ⟨_, rfl⟩
                  have hwr5 : IntKind.i64.wrap ((v4 : Int) + (n5 : Int)) = (v5 : Int) := by rw [hme]; exact wrap_add v4 n5 (by omega)
                  have hw5 : (v4 : Int) + (n5 : Int) = (v5 : Int) := by omega
                  have hv5 : v5 ≤ 4 * M + 3 := by omega
                  have HE5 := Lib.hid (show Cnt M l.total v5 r.total by have := HE4.out; unfold Cnt at *; omega)
                  have HB5 := Lib.hid (hB.out.trans ((HB4.out.trans (hB5.mono HB4.out.size)).mono hB.out.size))
                  clear hB5 hme hc5 HC hw0 hsub
                  go_wp2_with fail
                  go_roundw
                  case rel => exact ⟨k + 1, v5, r, rfl, by go_num, by omega, by omega, Lib.hid fun b' o' hbo _ => by cases hbo; rw [show o + (k + 1) * 16 = o + k * 16 + 16 by omega]; exact HR.out, hv5, HE5, HB5⟩
                  case measure => simp [intOf]; omega
                · have HE5 := Lib.hid (show Cnt M l.total v4 r.total by have := HE4.out; unfold Cnt at *; omega)
                  have HB5 := Lib.hid (hB.out.trans (HB4.out.mono hB.out.size))
                  go_wp2_with fail
                  go_roundw
                  case rel => exact ⟨k + 1, v4, r, rfl, by go_num, by omega, by omega, Lib.hid fun b' o' hbo _ => by cases hbo; rw [show o + (k + 1) * 16 = o + k * 16 + 16 by omega]; exact HR.out, hv4, HE5, HB5⟩
                  case measure => simp [intOf]; omega
              · have HE5 := Lib.hid (show Cnt M l.total v3 r.total by have := hE3.out; unfold Cnt at *; omega)
                have HB5 := Lib.hid (hB.out.trans (HBc.out.mono hB.out.size))
                go_wp2_with fail
                go_roundw
                case rel => exact ⟨k + 1, v3, r, rfl, by go_num, by omega, by omega, Lib.hid fun b' o' hbo _ => by cases hbo; rw [show o + (k + 1) * 16 = o + k * 16 + 16 by omega]; exact HR.out, hv3, HE5, HB5⟩
                case measure => simp [intOf]; omega
      · go_wp2_with fail
        go_ret
        exact ⟨⟨v, rfl, hv, by have := hE.out; unfold Cnt at *; omega⟩, hB.out⟩
theorem rcs_to : ∀ n, RCS n
  | 0 => fun _ h => absurd h (Nat.not_lt_zero _)
  | n + 1 => rcs_step n (rcs_to n)
theorem count_any (l : Sts) (M : Nat) (hM : M ≤ 5000) (p : Option Addr) (c N : Nat) (w : World) (h : l.In w N p) (hN : N ≤ w.heap.size) :
    Calls Tryz.prog 43 #[.slice p l.len c, .int .i64 M] w fun e w' => (∃ v : Nat, e = .returned (.int .i64 v) ∧ v ≤ 4 * M + 3 ∧ Cnt M l.total v 0) ∧ Below w.heap.size w w' :=
  rcs_to _ l (Nat.lt_succ_self _) M hM p c N w h hN
end Go.Proofs.YtlhbledakddbbaaGreatDoor
/- The document's None: is an expression a zero one? -/
namespace Go.Proofs.YtlhbledakddbbaaGreatDoor
open Go.RowKit

def Ex.none (x : Ex) : Bool := decide (x.op = 0) && (decide (x.word = 0) && (x.name.isEmpty && decide (x.args.len = 0)))
set_option maxHeartbeats 1600000 in
theorem rNone_any (x : Ex) (p : Option Addr) (c : Nat) (w : World) :
    Calls Tryz.prog 148 #[x.val p c] w fun e w' => e = .returned (.bool x.none) ∧ Below w.heap.size w w' := by
  obtain ⟨op, wd, nm, ar⟩ := x
  unfold Ex.none Ex.val
  simp only [Ex.op, Ex.word, Ex.name, Ex.args]
  obtain ⟨n, hn0⟩ : ∃ n, ar.len = n := ⟨_, rfl⟩
  simp only [hn0]
  clear hn0
  have HB := Lib.hid ((Below.refl w.heap.size w).alloc (Nat.le_refl _) (.cells #[.int .i64 op, .int .u64 (wd : Int), .string (str nm), .slice p n c] 26 (0, 0)))
  have es : (str nm).toList.isEmpty = nm.isEmpty := by rw [Lib.toList_data, str_data]
  go_enter Tryz.func148, Tryz.ntmps148
  by_cases h1 : op = 0
  · subst h1
    by_cases h2 : wd = 0
    · subst h2
      cases hn : nm.isEmpty with
      | true =>
        rw [hn] at es
        have e0 : (str nm).toList = [] := by simpa using es
        by_cases h4 : n = 0
        · subst h4
          go_wp2_with fail
          go_ret
          exact ⟨rfl, HB.out⟩
        · have h5 : ((n : Int) == 0) = false := by simp; omega
          go_wp2_with fail
          go_ret
          exact ⟨by simp, HB.out⟩
      | false =>
        rw [hn] at es
        have e0 : ¬ (str nm).toList = [] := by intro h; rw [h] at es; cases es
        go_wp2_with fail
        go_ret
        exact ⟨by simp, HB.out⟩
    · have h5 : ((wd : Int) == 0) = false := by simp; omega
      go_wp2_with fail
      go_ret
      exact ⟨by simp, HB.out⟩
  · have h5 : (op == 0) = false := by simp; omega
    go_wp2_with fail
    go_ret
    exact ⟨by simp [h1], HB.out⟩
end Go.Proofs.YtlhbledakddbbaaGreatDoor
/- The document's Deep. -/
namespace Go.Proofs.YtlhbledakddbbaaGreatDoor
open Go.RowKit

def Ex.dp (x : Ex) : Nat := if x.none then 0 else x.depth
mutual
def St.wt : St → Nat
  | .mk _ _ _ e a g _ _ bd el => 1 + e.size + a.size + g.size + bd.wt + el.wt
def Sts.wt : Sts → Nat
  | .nil => 0
  | .cons x r => x.wt + r.wt
end
mutual
def St.deep : St → Nat
  | .mk _ _ _ e a g _ _ bd el => max (max (max (max bd.deep el.deep) g.deepest) e.dp) a.dp + 1
def Sts.deep : Sts → Nat
  | .nil => 0
  | .cons x r => max x.deep r.deep
end
theorem Ex.dp_le (x : Ex) : x.dp ≤ x.size := by
  unfold Ex.dp
  have := Ex.depth_le x
  split <;> omega
mutual
theorem St.deep_le : ∀ x : St, x.deep ≤ x.wt
  | .mk _ _ _ e a g _ _ bd el => by
    have h1 := Sts.deep_le bd
    have h2 := Sts.deep_le el
    have h3 := Exs.deepest_le g
    have h4 := Ex.dp_le e
    have h5 := Ex.dp_le a
    simp only [St.deep, St.wt]
    omega
theorem Sts.deep_le : ∀ l : Sts, l.deep ≤ l.wt
  | .nil => by simp [Sts.deep]
  | .cons x r => by
    have h1 := St.deep_le x
    have h2 := Sts.deep_le r
    simp only [Sts.deep, Sts.wt]
    omega
end
def RDS (n : Nat) : Prop := ∀ l : Sts, l.size < n → l.wt ≤ 1000000 → ∀ (p : Option Addr) (c N : Nat) (w : World), l.In w N p → N ≤ w.heap.size →
    Calls Tryz.prog 134 #[.slice p l.len c] w fun e w' => e = .returned (.int .i64 (l.deep : Nat)) ∧ Below w.heap.size w w'
set_option maxRecDepth 100000 in
set_option maxHeartbeats 12800000 in
theorem rds_step (n : Nat) (ih : RDS n) : RDS (n + 1) := by
  intro l hsz hM p cl N w h1 hN
  have S1 := Lib.hid h1
  have IH := Lib.hid ih
  have hm1 := h1.1
  have HNN := Lib.hid hN
  have hls : l.size ≤ n := by omega
  clear h1 ih hN hsz
  go_enter Tryz.func134, Tryz.ntmps134
  go_wp2_with fail
  go_loopw [3, 4] (fun t i wr => ∃ (k v : Nat) (r : Sts), t = .int .i64 v ∧ i = .int .i64 k ∧ k + r.len = l.len ∧ r.size ≤ n ∧ Hid (∀ b o, p = some ⟨b, o, none⟩ → l.At w N b o → r.At w N b (o + k * 16)) ∧ v ≤ 1000001 ∧ r.wt ≤ 1000000 ∧ Hid (l.deep = max v r.deep) ∧ Hid (Below w.heap.size w wr)) (fun _ i _ => l.len - (intOf i).toNat)
  case atStart => exact ⟨0, 0, l, rfl, rfl, by omega, hls, Lib.hid fun b o _ h => by rw [Nat.zero_mul]; exact h, by omega, hM, Lib.hid (by omega), Lib.hid (Below.refl _ _)⟩
  case round =>
    obtain ⟨k, v, r, rfl, rfl, hk, hrs, hat, hv, hwt, hE, hB⟩ := hrel
    cases r with
    | nil =>
      simp only [Sts.len] at hk
      have hge : ¬ k < l.len := by omega
      go_wp2_with fail
      go_ret
      exact ⟨ret_int (by rw [hE.out]; simp [Sts.deep]), hB.out⟩
    | cons x r =>
      simp only [Sts.len] at hk
      simp only [Sts.size] at hrs
      simp only [Sts.wt] at hwt
      have hlt : k < l.len := by omega
      obtain ⟨wo, rfl⟩ : ∃ wo : World, wo = wr := ⟨_, rfl⟩
      · rcases S1.out.2 with h30 | ⟨b, o, rfl, hb, ha⟩
        · omega
        obtain ⟨hx, hr⟩ := hat.out b o rfl ha
        have HR := Lib.hid hr
        obtain ⟨s, c1, ok1⟩ := St.At.openP (St.At.later (hB.out.mono HNN.out) (Nat.le_trans HNN.out hB.out.size) x b _ hb hx)
        have hbl : b < wo.heap.size := by have := hB.out.size; have := HNN.out; omega
        obtain ⟨A1, hA1⟩ : ∃ A1, x.cells s = A1 := ⟨_, rfl⟩
        have HZ1 := Lib.hid (show A1.size = 16 by rw [← hA1]; rfl)
        have HO1 := Lib.hid (show A1.all (·.oneCell') = true by rw [← hA1]; exact oneSt _ _)
        have F1 := Lib.hid (show wo.rangeAt b (o + k * 16) A1.toList from fun j z hz => c1 j z (by rw [hA1, ← Array.getElem?_toList]; exact hz))
        have HI1 := Lib.hid (infoSt.trans (by rw [HZ1.out]) : (Tryz.prog.info? 54).map (·.size) = some A1.size)
        obtain ⟨W1, hW1⟩ : ∃ W1, wo.alloc (Obj.cells A1 54) = W1 := ⟨_, rfl⟩
        have HW1 := Lib.hid (show Below w.heap.size w W1 by rw [← hW1]; exact hB.out.trans (((Below.refl _ wo).alloc (Nat.le_refl _) _).mono hB.out.size))
        have HWr := Lib.hid (show Below wo.heap.size wo W1 by rw [← hW1]; exact (Below.refl _ wo).alloc (Nat.le_refl _) _)
        have hws : wo.heap.size < W1.heap.size := by rw [← hW1]; simp
        have HXA := Lib.hid (fun w1 hb => cells_later (w0 := W1) (w1 := w1) (b := wo.heap.size) (A := A1) (t := 54) (by rw [← hW1]; exact heap_alloc_new wo _) hb)
        go_wp2_with (first | (refine wpl_load rfl 54 _ rfl b (o + k * 16) rfl A1 _ F1.out Tryz.underlying54 rfl HI1.out ?_) | (refine wpl_store_new rfl 54 _ _ rfl _ A1 _ rfl rfl (by rw [HZ1.out]; rfl) HI1.out HO1.out ?_))
        rw [hW1]
        obtain ⟨kd, nm, ns, e, a, g, lo, hi, bd, el⟩ := x
        have HXC := Lib.hid (show ∀ w1, Below W1.heap.size W1 w1 → ∀ j z, (#[.int .i64 kd, .string (str nm), .slice s.pn ns.length s.cn, .int .i64 e.op, .int .u64 (e.word : Int), .string (str e.name), .slice s.pe e.args.len s.ce, .int .i64 a.op, .int .u64 (a.word : Int), .string (str a.name), .slice s.pa a.args.len s.ca, .slice s.pg g.len s.cg, .int .u64 (lo : Int), .int .u64 (hi : Int), .slice s.pb bd.len s.cb, .slice s.pl el.len s.cl] : Array Value)[j]? = some z → w1.cell? ⟨wo.heap.size, j, none⟩ = some z from fun w1 hb j z hz => HXA.out w1 hb j z (by rw [← hA1]; exact hz))
        simp only [St.size] at hrs
        simp only [St.wt] at hwt
        have HE := Lib.hid (fun (w1 : World) (hb : Below wo.heap.size wo w1) => rdepth_any e (by omega) s.pe s.ce wo.heap.size w1 (ok1.2.1.later hb (Nat.le_refl _)) hb.size)
        have HA := Lib.hid (fun (w1 : World) (hb : Below wo.heap.size wo w1) => rdepth_any a (by omega) s.pa s.ca wo.heap.size w1 (ok1.2.2.1.later hb (Nat.le_refl _)) hb.size)
        have HEn := Lib.hid (fun (w1 : World) => rNone_any e s.pe s.ce w1)
        have HAn := Lib.hid (fun (w1 : World) => rNone_any a s.pa s.ca w1)
        have HBd := Lib.hid (fun (w1 : World) (hb : Below wo.heap.size wo w1) => IH.out bd (by omega) (by omega) s.pb s.cb wo.heap.size w1 (ok1.2.2.2.2.1.later hb (Nat.le_refl _)) hb.size)
        have HEl := Lib.hid (fun (w1 : World) (hb : Below wo.heap.size wo w1) => IH.out el (by omega) (by omega) s.pl s.cl wo.heap.size w1 (ok1.2.2.2.2.2.1.later hb (Nat.le_refl _)) hb.size)
        have HOK := Lib.hid ok1
        unfold Ex.val at HE HA HEn HAn
        have hE' : l.deep = max v (max (max (max (max (max bd.deep el.deep) g.deepest) e.dp) a.dp + 1) r.deep) := by have := hE.out; simpa only [Sts.deep, St.deep] using this
        have HE2 := Lib.hid hE'
        have b1 := Sts.deep_le bd
        have b2 := Sts.deep_le el
        have b3 := Ex.dp_le e
        have b4 := Ex.dp_le a
        clear ok1 F1 HZ1 HO1 HI1 HXA hA1 c1 hx hr ha hE' hE
        generalize bd.deep = db at HBd HE2 b1
        generalize el.deep = de at HEl HE2 b2
        obtain ⟨m1, hm1e⟩ : ∃ m, m = max db de := ⟨_, rfl⟩
        have hmx : max (db : Int) (de : Int) = (m1 : Int) := by omega
        rw [← hm1e] at HE2
        have hm1b : m1 ≤ 1000000 := by omega
        clear hm1e
        go_upto_region 6 with fail
        simp only [Act.put]
        go_cut [6] from 18 to 24 (fun s6 wx => s6 = .int .i64 (m1 : Nat) ∧ Hid (Below wo.heap.size wo wx) ∧ Hid (Below W1.heap.size W1 wx))
        case first =>
          have HS1 : Below wo.heap.size wo W1.drew := HWr.out.drew
          have HS2 : Below W1.heap.size W1 W1.drew := (Below.refl _ _).drew
          refine wp_region_held_drew (S := fun W => Below wo.heap.size wo W ∧ Below W1.heap.size W1 W ∧ W.cell? ⟨wo.heap.size, 14, none⟩ = some (.slice s.pb bd.len s.cb) ∧ W.cell? ⟨wo.heap.size, 15, none⟩ = some (.slice s.pl el.len s.cl)) (by kernel_rfl) ?_ (fun hHeld => ?_)
          · exact ⟨HS1, HS2, HXC.out _ HS2 14 _ rfl, HXC.out _ HS2 15 _ rfl⟩
          refine wpAnyH_take (i := 0) (oi := { dst := Option.some 18, op := Go.Op.fieldAddr 54 (Go.Operand.tmp 5) 8, type := 0, pos := "ref.go:53", after := #[], guard := Option.none }) (v := ?_) rfl (by kernel_rfl) (by kernel_rfl) (by kernel_rfl) (fun _ _ _ h => h) (Or.inl ⟨by rfl, ?_⟩) (by assumption) ?_
          rotate_left
          · (intro w hSw; (try dsimp only at hSw); go_simp; try with_reducible rfl)
          try simp only [Act.put, List.setIfInBounds_toArray, List.set_cons_zero, List.set_cons_succ]
          refine wpAnyH_take (i := 1) (oi := { dst := Option.some 19, op := Go.Op.load 47 (Go.Operand.tmp 18), type := 47, pos := "ref.go:53", after := #[{ on := 0, ground := Go.Ground.data }], guard := Option.none }) (v := ?_) rfl (by kernel_rfl) (by kernel_rfl) (by kernel_rfl) (fun _ _ _ h => h) (Or.inl ⟨by rfl, ?_⟩) (by assumption) ?_
          rotate_left
          · (intro w hSw; (try dsimp only at hSw); go_simp; try with_reducible rfl)
          try simp only [Act.put, List.setIfInBounds_toArray, List.set_cons_zero, List.set_cons_succ]
          refine wpAnyH_take (i := 3) (oi := { dst := Option.some 21, op := Go.Op.fieldAddr 54 (Go.Operand.tmp 5) 9, type := 0, pos := "ref.go:53", after := #[], guard := Option.none }) (v := ?_) rfl (by kernel_rfl) (by kernel_rfl) (by kernel_rfl) (fun _ _ _ h => h) (Or.inl ⟨by rfl, ?_⟩) (by assumption) ?_
          rotate_left
          · (intro w hSw; (try dsimp only at hSw); go_simp; try with_reducible rfl)
          try simp only [Act.put, List.setIfInBounds_toArray, List.set_cons_zero, List.set_cons_succ]
          refine wpAnyH_take (i := 4) (oi := { dst := Option.some 22, op := Go.Op.load 47 (Go.Operand.tmp 21), type := 47, pos := "ref.go:53", after := #[{ on := 3, ground := Go.Ground.data }], guard := Option.none }) (v := ?_) rfl (by kernel_rfl) (by kernel_rfl) (by kernel_rfl) (fun _ _ _ h => h) (Or.inl ⟨by rfl, ?_⟩) (by assumption) ?_
          rotate_left
          · (intro w hSw; (try dsimp only at hSw); go_simp; try with_reducible rfl)
          try simp only [Act.put, List.setIfInBounds_toArray, List.set_cons_zero, List.set_cons_succ]
          refine wpAnyH_ready (rs := [2]) (by kernel_rfl) (by simp) ?_
          refine AllReadyH.cons (o := { dst := Option.some 20, op := Go.Op.call { callee := Go.Callee.value (Go.Operand.func 134), args := #[Go.Operand.tmp 19], argTypes := #[47] }, type := 3, pos := "ref.go:53", after := #[{ on := 1, ground := Go.Ground.data }], guard := Option.none }) rfl (fun K hK => ?_) AllReadyH.nil
          go_simp
          refine (HBd.out _ HS1).mono ?_
          rintro z w2 ⟨rfl, hB2⟩
          replace HS2 := HS2.trans (hB2.mono HS2.size)
          replace HS1 := HS1.trans (hB2.mono HS1.size)
          clear hB2
          refine hK.out _ _ ?_ (fun hHeld => ?_)
          · exact ⟨HS1, HS2, HXC.out _ HS2 14 _ rfl, HXC.out _ HS2 15 _ rfl⟩
          clear hK K
          try simp only [Act.put, List.setIfInBounds_toArray, List.set_cons_zero, List.set_cons_succ]
          refine wpAnyH_ready (rs := [5]) (by kernel_rfl) (by simp) ?_
          refine AllReadyH.cons (o := { dst := Option.some 23, op := Go.Op.call { callee := Go.Callee.value (Go.Operand.func 134), args := #[Go.Operand.tmp 22], argTypes := #[47] }, type := 3, pos := "ref.go:53", after := #[{ on := 4, ground := Go.Ground.data }, { on := 2, ground := Go.Ground.chain }], guard := Option.none }) rfl (fun K hK => ?_) AllReadyH.nil
          go_simp
          refine (HEl.out _ HS1).mono ?_
          rintro z w3 ⟨rfl, hB2⟩
          replace HS2 := HS2.trans (hB2.mono HS2.size)
          replace HS1 := HS1.trans (hB2.mono HS1.size)
          clear hB2
          refine hK.out _ _ ?_ (fun hHeld => ?_)
          · exact ⟨HS1, HS2, HXC.out _ HS2 14 _ rfl, HXC.out _ HS2 15 _ rfl⟩
          clear hK K
          try simp only [Act.put, List.setIfInBounds_toArray, List.set_cons_zero, List.set_cons_succ]
          refine wpAnyH_take (i := 6) (oi := { dst := Option.some 24, op := Go.Op.call { callee := Go.Callee.builtin Go.Builtin.max, args := #[Go.Operand.tmp 20, Go.Operand.tmp 23], argTypes := #[3, 3] }, type := 3, pos := "ref.go:53", after := #[{ on := 2, ground := Go.Ground.data }, { on := 5, ground := Go.Ground.data }], guard := Option.none }) (v := .int .i64 (m1 : Nat)) rfl (by kernel_rfl) (by kernel_rfl) (by kernel_rfl) (fun _ _ _ h => h) (Or.inl ⟨by rfl, ?_⟩) (by assumption) ?_
          · (intro w hSw; (try dsimp only at hSw); go_simp; (try rw [hmx]))
          try simp only [Act.put, List.setIfInBounds_toArray, List.set_cons_zero, List.set_cons_succ]
          refine wpAnyH_take (i := 7) (oi := { dst := Option.some 6, op := Go.Op.assign (Go.Operand.tmp 24), type := 3, pos := "ref.go:53", after := #[{ on := 6, ground := Go.Ground.data }, { on := 5, ground := Go.Ground.chain }, { on := 0, ground := Go.Ground.phase }, { on := 1, ground := Go.Ground.phase }, { on := 2, ground := Go.Ground.phase }, { on := 3, ground := Go.Ground.phase }, { on := 4, ground := Go.Ground.phase }, { on := 5, ground := Go.Ground.phase }, { on := 6, ground := Go.Ground.phase }], guard := Option.none }) (v := ?_) rfl (by kernel_rfl) (by kernel_rfl) (by kernel_rfl) (fun _ _ _ h => h) (Or.inl ⟨by rfl, ?_⟩) (by assumption) ?_
          rotate_left
          · (intro w hSw; (try dsimp only at hSw); go_simp; try with_reducible rfl)
          try simp only [Act.put, List.setIfInBounds_toArray, List.set_cons_zero, List.set_cons_succ]
          refine wpAnyH_done (by kernel_rfl) ?_ _
          go_wp2_with fail
          go_meet
          exact ⟨rfl, Lib.hid HS1, Lib.hid HS2⟩
        case rest =>
          obtain ⟨rfl, HS1, HS2⟩ := hcut
          clear HBd HEl hmx
          go_wp2_with fail
          go_loopw [6, 7] (fun t i wx => ∃ (j m2 : Nat) (y : Exs), t = .int .i64 m2 ∧ i = .int .i64 j ∧ j + y.len = g.len ∧ Hid (∀ b o, s.pg = some ⟨b, o, none⟩ → g.At wo wo.heap.size b o → y.At wo wo.heap.size b (o + j * 4)) ∧ m2 ≤ 1000000 ∧ y.size ≤ 1000000 ∧ Hid (l.deep = max v (max (max (max (max m2 y.deepest) e.dp) a.dp + 1) r.deep)) ∧ Hid (Below W1.heap.size W1 wx)) (fun _ i _ => g.len - (intOf i).toNat)
          case atStart => exact ⟨0, m1, g, rfl, rfl, by omega, Lib.hid fun b o _ h => by rw [Nat.zero_mul]; exact h, hm1b, by omega, HE2, HS2⟩
          case round =>
            clear HE2 HS1 HS2 hm1b
            obtain ⟨j, m2, y, rfl, rfl, hk3, hat3, hm2b, hy6, hE3, HB3⟩ := hrel
            have gx3 : wr.cell? ⟨wo.heap.size, 11, none⟩ = some (.slice s.pg g.len s.cg) := HXC.out _ HB3.out 11 _ rfl
            have hm3 : g.len ≤ 140737488355328 := HOK.out.2.2.2.1.1
            cases y with
            | nil =>
              simp only [Exs.len] at hk3
              have hge3 : ¬ j < g.len := by omega
              have HE4 := Lib.hid (show l.deep = max v (max (max (max m2 e.dp) a.dp + 1) r.deep) by have := hE3.out; simpa [Exs.deepest] using this)
              clear hE3
              have xe0 : wr.cell? ⟨wo.heap.size, 3, none⟩ = some (.int .i64 e.op) := HXC.out _ HB3.out 3 _ rfl
              have xe1 : wr.cell? ⟨wo.heap.size, 4, none⟩ = some (.int .u64 (e.word : Int)) := HXC.out _ HB3.out 4 _ rfl
              have xe2 : wr.cell? ⟨wo.heap.size, 5, none⟩ = some (.string (str e.name)) := HXC.out _ HB3.out 5 _ rfl
              have xe3 : wr.cell? ⟨wo.heap.size, 6, none⟩ = some (.slice s.pe e.args.len s.ce) := HXC.out _ HB3.out 6 _ rfl
              go_wp2_with fail
              refine (HEn.out _).mono ?_
              rintro q20 w20 ⟨rfl, hB4⟩
              replace HB3 := Lib.hid (HB3.out.trans (hB4.mono HB3.out.size))
              clear hB4 xe0 xe1 xe2 xe3
              cases hne : e.none with
              | true =>
                have de : e.dp = 0 := by unfold Ex.dp; rw [hne]; rfl
                have xa0 : w20.cell? ⟨wo.heap.size, 7, none⟩ = some (.int .i64 a.op) := HXC.out _ HB3.out 7 _ rfl
                have xa1 : w20.cell? ⟨wo.heap.size, 8, none⟩ = some (.int .u64 (a.word : Int)) := HXC.out _ HB3.out 8 _ rfl
                have xa2 : w20.cell? ⟨wo.heap.size, 9, none⟩ = some (.string (str a.name)) := HXC.out _ HB3.out 9 _ rfl
                have xa3 : w20.cell? ⟨wo.heap.size, 10, none⟩ = some (.slice s.pa a.args.len s.ca) := HXC.out _ HB3.out 10 _ rfl
                go_wp2_with fail
                refine (HAn.out _).mono ?_
                rintro q21 w21 ⟨rfl, hB4⟩
                replace HB3 := Lib.hid (HB3.out.trans (hB4.mono HB3.out.size))
                clear hB4 xa0 xa1 xa2 xa3
                cases hna : a.none with
                | true =>
                  have da : a.dp = 0 := by unfold Ex.dp; rw [hna]; rfl
                  have hfin : l.deep = max (max v (m2 + 1)) r.deep := by have := HE4.out; (try have t20 := HM20.out); (try have t21 := HM21.out); (try have t22 := HM22.out); (try have t23 := HM23.out); (try have t24 := HM24.out); (try have t25 := HM25.out); (try have t26 := HM26.out); (try have t27 := HM27.out); (try have t28 := HM28.out); (try have t29 := HM29.out); omega
                  have HFin := Lib.hid hfin
                  have hz1 : IntKind.i64.wrap ((m2 : Int) + 1) = (m2 : Int) + 1 := IntWalk.i64_in _ (by omega)
                  have hz2 : max (v : Int) ((m2 : Int) + 1) = ((max v (m2 + 1) : Nat) : Int) := by omega
                  clear hfin
                  go_wp2_with fail
                  go_roundw
                  case rel => exact ⟨k + 1, max v (m2 + 1), r, rfl, by go_num, by omega, by omega, Lib.hid fun b' o' e _ => by cases e; rw [show o + (k + 1) * 16 = o + k * 16 + 16 by omega]; exact HR.out, by omega, by omega, HFin, Lib.hid (HW1.out.trans (HB3.out.mono HW1.out.size))⟩
                  case measure => simp [intOf]; omega
                | false =>
                  have da : a.dp = a.depth := by unfold Ex.dp; rw [hna]; rfl
                  have xa0 : w21.cell? ⟨wo.heap.size, 7, none⟩ = some (.int .i64 a.op) := HXC.out _ HB3.out 7 _ rfl
                  have xa1 : w21.cell? ⟨wo.heap.size, 8, none⟩ = some (.int .u64 (a.word : Int)) := HXC.out _ HB3.out 8 _ rfl
                  have xa2 : w21.cell? ⟨wo.heap.size, 9, none⟩ = some (.string (str a.name)) := HXC.out _ HB3.out 9 _ rfl
                  have xa3 : w21.cell? ⟨wo.heap.size, 10, none⟩ = some (.slice s.pa a.args.len s.ca) := HXC.out _ HB3.out 10 _ rfl
                  have HD := Lib.hid (HA.out w21 (HWr.out.trans (HB3.out.mono HWr.out.size)))
                  rw [← da] at HD
                  obtain ⟨dav, hdav⟩ : ∃ d, a.dp = d := ⟨_, rfl⟩
                  rw [hdav] at HD
                  go_wp2_with fail
                  refine HD.out.mono ?_
                  rintro q21' w21' ⟨rfl, hB4⟩
                  replace HB3 := Lib.hid (HB3.out.trans (hB4.mono HB3.out.size))
                  clear hB4 HD xa0 xa1 xa2 xa3
                  obtain ⟨m21, hm21⟩ : ∃ m, m = max m2 dav := ⟨_, rfl⟩
                  have hx21 : max (m2 : Int) (dav : Int) = (m21 : Int) := by omega
                  have hy21 : m21 ≤ 1000000 := by omega
                  have HM21 := Lib.hid hm21
                  clear hm21
                  have hfin : l.deep = max (max v (m21 + 1)) r.deep := by have := HE4.out; (try have t20 := HM20.out); (try have t21 := HM21.out); (try have t22 := HM22.out); (try have t23 := HM23.out); (try have t24 := HM24.out); (try have t25 := HM25.out); (try have t26 := HM26.out); (try have t27 := HM27.out); (try have t28 := HM28.out); (try have t29 := HM29.out); omega
                  have HFin := Lib.hid hfin
                  have hz1 : IntKind.i64.wrap ((m21 : Int) + 1) = (m21 : Int) + 1 := IntWalk.i64_in _ (by omega)
                  have hz2 : max (v : Int) ((m21 : Int) + 1) = ((max v (m21 + 1) : Nat) : Int) := by omega
                  clear hfin
                  go_wp2_with fail
                  go_roundw
                  case rel => exact ⟨k + 1, max v (m21 + 1), r, rfl, by go_num, by omega, by omega, Lib.hid fun b' o' e _ => by cases e; rw [show o + (k + 1) * 16 = o + k * 16 + 16 by omega]; exact HR.out, by omega, by omega, HFin, Lib.hid (HW1.out.trans (HB3.out.mono HW1.out.size))⟩
                  case measure => simp [intOf]; omega
              | false =>
                have de : e.dp = e.depth := by unfold Ex.dp; rw [hne]; rfl
                have xe0 : w20.cell? ⟨wo.heap.size, 3, none⟩ = some (.int .i64 e.op) := HXC.out _ HB3.out 3 _ rfl
                have xe1 : w20.cell? ⟨wo.heap.size, 4, none⟩ = some (.int .u64 (e.word : Int)) := HXC.out _ HB3.out 4 _ rfl
                have xe2 : w20.cell? ⟨wo.heap.size, 5, none⟩ = some (.string (str e.name)) := HXC.out _ HB3.out 5 _ rfl
                have xe3 : w20.cell? ⟨wo.heap.size, 6, none⟩ = some (.slice s.pe e.args.len s.ce) := HXC.out _ HB3.out 6 _ rfl
                have HD := Lib.hid (HE.out w20 (HWr.out.trans (HB3.out.mono HWr.out.size)))
                rw [← de] at HD
                obtain ⟨dev, hdev⟩ : ∃ d, e.dp = d := ⟨_, rfl⟩
                rw [hdev] at HD
                go_wp2_with fail
                refine HD.out.mono ?_
                rintro q20' w20' ⟨rfl, hB4⟩
                replace HB3 := Lib.hid (HB3.out.trans (hB4.mono HB3.out.size))
                clear hB4 HD xe0 xe1 xe2 xe3
                obtain ⟨m20, hm20⟩ : ∃ m, m = max m2 dev := ⟨_, rfl⟩
                have hx20 : max (m2 : Int) (dev : Int) = (m20 : Int) := by omega
                have hy20 : m20 ≤ 1000000 := by omega
                have HM20 := Lib.hid hm20
                clear hm20
                have xa0 : w20'.cell? ⟨wo.heap.size, 7, none⟩ = some (.int .i64 a.op) := HXC.out _ HB3.out 7 _ rfl
                have xa1 : w20'.cell? ⟨wo.heap.size, 8, none⟩ = some (.int .u64 (a.word : Int)) := HXC.out _ HB3.out 8 _ rfl
                have xa2 : w20'.cell? ⟨wo.heap.size, 9, none⟩ = some (.string (str a.name)) := HXC.out _ HB3.out 9 _ rfl
                have xa3 : w20'.cell? ⟨wo.heap.size, 10, none⟩ = some (.slice s.pa a.args.len s.ca) := HXC.out _ HB3.out 10 _ rfl
                go_wp2_with fail
                refine (HAn.out _).mono ?_
                rintro q22 w22 ⟨rfl, hB4⟩
                replace HB3 := Lib.hid (HB3.out.trans (hB4.mono HB3.out.size))
                clear hB4 xa0 xa1 xa2 xa3
                cases hna : a.none with
                | true =>
                  have da : a.dp = 0 := by unfold Ex.dp; rw [hna]; rfl
                  have hfin : l.deep = max (max v (m20 + 1)) r.deep := by have := HE4.out; (try have t20 := HM20.out); (try have t21 := HM21.out); (try have t22 := HM22.out); (try have t23 := HM23.out); (try have t24 := HM24.out); (try have t25 := HM25.out); (try have t26 := HM26.out); (try have t27 := HM27.out); (try have t28 := HM28.out); (try have t29 := HM29.out); omega
                  have HFin := Lib.hid hfin
                  have hz1 : IntKind.i64.wrap ((m20 : Int) + 1) = (m20 : Int) + 1 := IntWalk.i64_in _ (by omega)
                  have hz2 : max (v : Int) ((m20 : Int) + 1) = ((max v (m20 + 1) : Nat) : Int) := by omega
                  clear hfin
                  go_wp2_with fail
                  go_roundw
                  case rel => exact ⟨k + 1, max v (m20 + 1), r, rfl, by go_num, by omega, by omega, Lib.hid fun b' o' e _ => by cases e; rw [show o + (k + 1) * 16 = o + k * 16 + 16 by omega]; exact HR.out, by omega, by omega, HFin, Lib.hid (HW1.out.trans (HB3.out.mono HW1.out.size))⟩
                  case measure => simp [intOf]; omega
                | false =>
                  have da : a.dp = a.depth := by unfold Ex.dp; rw [hna]; rfl
                  have xa0 : w22.cell? ⟨wo.heap.size, 7, none⟩ = some (.int .i64 a.op) := HXC.out _ HB3.out 7 _ rfl
                  have xa1 : w22.cell? ⟨wo.heap.size, 8, none⟩ = some (.int .u64 (a.word : Int)) := HXC.out _ HB3.out 8 _ rfl
                  have xa2 : w22.cell? ⟨wo.heap.size, 9, none⟩ = some (.string (str a.name)) := HXC.out _ HB3.out 9 _ rfl
                  have xa3 : w22.cell? ⟨wo.heap.size, 10, none⟩ = some (.slice s.pa a.args.len s.ca) := HXC.out _ HB3.out 10 _ rfl
                  have HD := Lib.hid (HA.out w22 (HWr.out.trans (HB3.out.mono HWr.out.size)))
                  rw [← da] at HD
                  obtain ⟨dav, hdav⟩ : ∃ d, a.dp = d := ⟨_, rfl⟩
                  rw [hdav] at HD
                  go_wp2_with fail
                  refine HD.out.mono ?_
                  rintro q22' w22' ⟨rfl, hB4⟩
                  replace HB3 := Lib.hid (HB3.out.trans (hB4.mono HB3.out.size))
                  clear hB4 HD xa0 xa1 xa2 xa3
                  obtain ⟨m22, hm22⟩ : ∃ m, m = max m20 dav := ⟨_, rfl⟩
                  have hx22 : max (m20 : Int) (dav : Int) = (m22 : Int) := by omega
                  have hy22 : m22 ≤ 1000000 := by omega
                  have HM22 := Lib.hid hm22
                  clear hm22
                  have hfin : l.deep = max (max v (m22 + 1)) r.deep := by have := HE4.out; (try have t20 := HM20.out); (try have t21 := HM21.out); (try have t22 := HM22.out); (try have t23 := HM23.out); (try have t24 := HM24.out); (try have t25 := HM25.out); (try have t26 := HM26.out); (try have t27 := HM27.out); (try have t28 := HM28.out); (try have t29 := HM29.out); omega
                  have HFin := Lib.hid hfin
                  have hz1 : IntKind.i64.wrap ((m22 : Int) + 1) = (m22 : Int) + 1 := IntWalk.i64_in _ (by omega)
                  have hz2 : max (v : Int) ((m22 : Int) + 1) = ((max v (m22 + 1) : Nat) : Int) := by omega
                  clear hfin
                  go_wp2_with fail
                  go_roundw
                  case rel => exact ⟨k + 1, max v (m22 + 1), r, rfl, by go_num, by omega, by omega, Lib.hid fun b' o' e _ => by cases e; rw [show o + (k + 1) * 16 = o + k * 16 + 16 by omega]; exact HR.out, by omega, by omega, HFin, Lib.hid (HW1.out.trans (HB3.out.mono HW1.out.size))⟩
                  case measure => simp [intOf]; omega
            | cons z y =>
              simp only [Exs.len] at hk3
              simp only [Exs.size] at hy6
              have hlt3 : j < g.len := by omega
              · rcases (show g.In wo wo.heap.size s.pg from HOK.out.2.2.2.1).2 with h30 | ⟨b3, o3, hp3, hb3, ha3⟩
                · omega
                obtain ⟨hz, hzr⟩ := hat3.out b3 o3 hp3 ha3
                have hBo : Below wo.heap.size wo wr := HWr.out.trans (HB3.out.mono HWr.out.size)
                obtain ⟨q, cq, d0, d1, d2, d3, hokz⟩ := (Ex.At.later hBo hBo.size z b3 _ hb3 hz).open'
                rw [hp3] at gx3
                have HC3 := Lib.hid (rdepth_any z (by omega) q cq wr.heap.size wr hokz (Nat.le_refl _))
                have hzd := Ex.depth_le z
                unfold Ex.val at HC3
                have HZR := Lib.hid hzr
                have HH := Lib.hid hp3
                have hmx2 : max (m2 : Int) (z.depth : Int) = ((max m2 z.depth : Nat) : Int) := by omega
                have HE4 := Lib.hid (show l.deep = max v (max (max (max (max (max m2 z.depth) y.deepest) e.dp) a.dp + 1) r.deep) by have := hE3.out; simp only [Exs.deepest] at this; omega)
                clear ha3 hz hzr hokz hp3 hat3 hBo hE3
                generalize z.depth = dz at HC3 hzd hmx2 HE4
                go_wp2_with fail
                refine HC3.out.mono ?_
                rintro e3 w3 ⟨rfl, hB4⟩
                have HB5 := Lib.hid (HB3.out.trans (hB4.mono HB3.out.size))
                clear hB4 HC3 d0 d1 d2 d3
                go_wp2_with fail
                go_roundw
                case rel => exact ⟨j + 1, max m2 dz, y, by rw [← hmx2], by go_num, by omega, Lib.hid fun b o hbo _ => by have := HH.out.symm.trans hbo; cases this; rw [show o3 + (j + 1) * 4 = o3 + j * 4 + 4 by omega]; exact HZR.out, by omega, by omega, HE4, HB5⟩
                case measure => simp [intOf]; omega
theorem rds_to : ∀ n, RDS n
  | 0 => fun _ h => absurd h (Nat.not_lt_zero _)
  | n + 1 => rds_step n (rds_to n)
/-- the document's Deep of any statements that are not too many -/
theorem rDeep_any (l : Sts) (h6 : l.wt ≤ 1000000) (p : Option Addr) (c N : Nat) (w : World) (h : l.In w N p) (hN : N ≤ w.heap.size) :
    Calls Tryz.prog 134 #[.slice p l.len c] w fun e w' => e = .returned (.int .i64 (l.deep : Nat)) ∧ Below w.heap.size w w' :=
  rds_to _ l (Nat.lt_succ_self _) h6 p c N w h hN
end Go.Proofs.YtlhbledakddbbaaGreatDoor
/- Which statements, functions and programs can be told, and their lines. -/
namespace Go.Proofs.YtlhbledakddbbaaGreatDoor
open Go.RowKit

def namesB (l : List (List UInt8)) : Bool := l.all nameB
/-- nothing, as an expression -/
def E0 : Ex := .mk 0 0 [] .nil
def St.isZero : St → Bool
  | .mk kd nm ns e a g lo hi bd el => decide (kd = 0) && (nm.isEmpty && (decide (ns.length = 0) && (e.none && (a.none && (decide (g.len = 0) && (decide (lo = 0) && (decide (hi = 0) && (decide (bd.len = 0) && decide (el.len = 0)))))))))
/-- what a statement has besides what its kind names -/
def restSt (kd : Int) (nm : List UInt8) (ns : List (List UInt8)) (e a : Ex) (g : Exs) (lo hi : Nat) (bd el : Sts) : St :=
  if kd = 1 then .mk 0 [] ns E0 a g lo hi bd el
  else if kd = 2 then .mk 0 [] ns E0 E0 g lo hi bd el
  else if kd = 3 then .mk 0 nm ns E0 a g lo hi .nil .nil
  else if kd = 4 then .mk 0 nm ns E0 a g lo hi .nil el
  else if kd = 5 then .mk 0 [] ns e a g 0 0 .nil el
  else if kd = 6 then .mk 0 [] [] e a .nil lo hi bd el
  else .mk 0 nm ns e a g lo hi bd el
mutual
def St.may : St → Bool
  | .mk kd nm ns e a g lo hi bd el =>
    (if kd = 1 then nameB nm && e.may
     else if kd = 2 then nameB nm && (a.may && e.may)
     else if kd = 3 then e.may && (bd.may && el.may)
     else if kd = 4 then e.may && bd.may
     else if kd = 5 then nameB nm && bd.may
     else if kd = 6 then nameB nm && (namesB ns && g.may)
     else false) && (restSt kd nm ns e a g lo hi bd el).isZero
def Sts.may : Sts → Bool
  | .nil => true
  | .cons x r => x.may && r.may
end
/-- statements that can be told -/
def Sts.can (l : Sts) : Bool := decide (l.deep ≤ 64) && l.may

def secT (s : Bool) : List UInt8 := if s then [32, 115, 101, 99, 114, 101, 116] else []
/-- a statement's first line -/
def firstT (kd : Int) (nm : List UInt8) (ns : List (List UInt8)) (et aT : List UInt8) (gt : List (List UInt8)) (lo hi : Nat) : List UInt8 :=
  if kd = 1 then nm ++ [32, 61, 32] ++ et ++ [59]
  else if kd = 2 then (nm ++ [91] ++ aT ++ [93]) ++ [32, 61, 32] ++ et ++ [59]
  else if kd = 3 then [105, 102, 32] ++ et ++ [32, 123]
  else if kd = 4 then [119, 104, 105, 108, 101, 32] ++ et ++ [32, 123]
  else if kd = 5 then [102, 111, 114, 32] ++ nm ++ [32] ++ Lib.decDigits lo ++ [32] ++ Lib.decDigits hi ++ [32, 123]
  else if ns.length = 0 then (nm ++ ([40] ++ Lib.join gt [44, 32] ++ [41])) ++ [59]
  else Lib.join ns [44, 32] ++ [32, 61, 32] ++ ((nm ++ ([40] ++ Lib.join gt [44, 32] ++ [41])) ++ [59])
def St.first (x : St) : List UInt8 := firstT x.kind x.name x.names x.e.text x.a.text x.args.texts x.low x.high
def elseT : List UInt8 := [125, 32, 101, 108, 115, 101, 32, 123]
mutual
def St.lines : St → Nat → List (Nat × List UInt8)
  | .mk kd nm ns e a g lo hi bd el, t =>
    (t, firstT kd nm ns e.text a.text g.texts lo hi) :: (if kd = 3 ∨ kd = 4 ∨ kd = 5 then
      bd.lines (t + 1) ++ ((if el.len = 0 then [] else (t, elseT) :: el.lines (t + 1)) ++ [(t, [125])])
    else [])
def Sts.lines : Sts → Nat → List (Nat × List UInt8)
  | .nil, _ => []
  | .cons x r, t => x.lines t ++ r.lines t
end
def upL (x : Nat × List UInt8) : Nat × List UInt8 := (x.1 + 1, x.2)
mutual
theorem St.lines_up : ∀ (x : St) (t : Nat), x.lines (t + 1) = (x.lines t).map upL
  | .mk kd nm ns e a g lo hi bd el, t => by
    simp only [St.lines, List.map_cons]
    split
    · split
      · simp only [List.map_append, List.map_cons, List.map_nil, List.nil_append, Sts.lines_up bd (t + 1), upL]
      · simp only [List.map_append, List.map_cons, List.map_nil, Sts.lines_up bd (t + 1), Sts.lines_up el (t + 1), upL]
    · rfl
theorem Sts.lines_up : ∀ (l : Sts) (t : Nat), l.lines (t + 1) = (l.lines t).map upL
  | .nil, _ => rfl
  | .cons x r, t => by simp only [Sts.lines, List.map_append, St.lines_up x t, Sts.lines_up r t]
end

def Rgn.may (r : Rgn) : Bool := nameB r.name && (decide (0 ≤ r.addr) && decide (0 ≤ r.size))
def Vr.mayP (v : Vr) : Bool := nameB v.name && (decide (v.kind = 1) && decide (v.size = 0))
def Vr.may (v : Vr) : Bool := if v.kind = 1 then v.mayP && !v.secret else if v.kind = 2 ∨ v.kind = 3 then nameB v.name && decide (0 ≤ v.size) else false
def Fnc.may (f : Fnc) : Bool := nameB f.name && (f.params.all Vr.mayP && (f.vars.all Vr.may && (namesB f.rets && f.body.can)))
def Prg.may (p : Prg) : Bool := p.regs.all Rgn.may && p.fns.all Fnc.may
def Rgn.line (r : Rgn) : List UInt8 := [114, 101, 103, 105, 111, 110, 32] ++ r.name ++ [32] ++ Lib.decDigits r.addr.toNat ++ [32] ++ Lib.decDigits r.size.toNat ++ secT r.secret ++ [59]
def Vr.word (v : Vr) : List UInt8 := if v.kind = 2 then [97, 114, 114, 97, 121, 32] else [115, 116, 97, 99, 107, 32]
def Vr.line (v : Vr) : List UInt8 := if v.kind = 1 then [118, 97, 114, 32] ++ v.name ++ [59] else v.word ++ v.name ++ [32] ++ Lib.decDigits v.size.toNat ++ secT v.secret ++ [59]
def Vr.param (v : Vr) : List UInt8 := v.name ++ secT v.secret
def Fnc.head (f : Fnc) : List UInt8 := ([102, 110, 32] ++ f.name ++ [40] ++ Lib.join (f.params.map Vr.param) [44, 32] ++ [41]) ++ (if f.rets.length = 0 then [] else [32, 45, 62, 32] ++ Lib.join f.rets [44, 32]) ++ [32, 123]
def Fnc.lines (f : Fnc) : List (Nat × List UInt8) := (0, f.head) :: (f.vars.map (fun v => (1, v.line)) ++ (f.body.lines 1 ++ [(0, [125])]))
def Prg.lines (p : Prg) : List (Nat × List UInt8) := p.regs.map (fun r => (0, r.line)) ++ p.fns.flatMap Fnc.lines
/-- lines as a text -/
def lineT (x : Nat × List UInt8) : List UInt8 := List.replicate x.1 9 ++ (x.2 ++ [10])
def linesT (l : List (Nat × List UInt8)) : List UInt8 := l.flatMap lineT
def Prg.text (p : Prg) : List UInt8 := linesT p.lines

theorem st_may_1 (nm : List UInt8) (ns : List (List UInt8)) (e a : Ex) (g : Exs) (lo hi : Nat) (bd el : Sts) : (St.mk 1 nm ns e a g lo hi bd el).may = ((nameB nm && e.may) && (St.mk 0 [] ns E0 a g lo hi bd el).isZero) := by simp [St.may, restSt]
theorem st_may_2 (nm : List UInt8) (ns : List (List UInt8)) (e a : Ex) (g : Exs) (lo hi : Nat) (bd el : Sts) : (St.mk 2 nm ns e a g lo hi bd el).may = ((nameB nm && (a.may && e.may)) && (St.mk 0 [] ns E0 E0 g lo hi bd el).isZero) := by simp [St.may, restSt]
theorem st_may_3 (nm : List UInt8) (ns : List (List UInt8)) (e a : Ex) (g : Exs) (lo hi : Nat) (bd el : Sts) : (St.mk 3 nm ns e a g lo hi bd el).may = ((e.may && (bd.may && el.may)) && (St.mk 0 nm ns E0 a g lo hi .nil .nil).isZero) := by simp [St.may, restSt]
theorem st_may_4 (nm : List UInt8) (ns : List (List UInt8)) (e a : Ex) (g : Exs) (lo hi : Nat) (bd el : Sts) : (St.mk 4 nm ns e a g lo hi bd el).may = ((e.may && bd.may) && (St.mk 0 nm ns E0 a g lo hi .nil el).isZero) := by simp [St.may, restSt]
theorem st_may_5 (nm : List UInt8) (ns : List (List UInt8)) (e a : Ex) (g : Exs) (lo hi : Nat) (bd el : Sts) : (St.mk 5 nm ns e a g lo hi bd el).may = ((nameB nm && bd.may) && (St.mk 0 [] ns e a g 0 0 .nil el).isZero) := by simp [St.may, restSt]
theorem st_may_6 (nm : List UInt8) (ns : List (List UInt8)) (e a : Ex) (g : Exs) (lo hi : Nat) (bd el : Sts) : (St.mk 6 nm ns e a g lo hi bd el).may = ((nameB nm && (namesB ns && g.may)) && (St.mk 0 [] [] e a .nil lo hi bd el).isZero) := by simp [St.may, restSt]
theorem st_may_no (kd : Int) (h : kd < 1 ∨ 6 < kd) (nm : List UInt8) (ns : List (List UInt8)) (e a : Ex) (g : Exs) (lo hi : Nat) (bd el : Sts) : (St.mk kd nm ns e a g lo hi bd el).may = false := by
  rw [St.may, if_neg (by omega), if_neg (by omega), if_neg (by omega), if_neg (by omega), if_neg (by omega), if_neg (by omega)]; rfl
end Go.Proofs.YtlhbledakddbbaaGreatDoor
/- How long lines are, how far in they stand, how they open and shut braces. -/
namespace Go.Proofs.YtlhbledakddbbaaGreatDoor
open Go.RowKit

mutual
def St.fine : St → Prop
  | .mk _ _ _ e a g lo hi bd el => (e.fine ∧ a.fine ∧ g.fine ∧ lo < 18446744073709551616 ∧ hi < 18446744073709551616) ∧ bd.fine ∧ el.fine
def Sts.fine : Sts → Prop
  | .nil => True
  | .cons x r => x.fine ∧ r.fine
end
theorem sumL_strs (l : List (List UInt8)) : sumL l ≤ 2 * strsT l := by
  induction l with
  | nil => exact Nat.le_refl _
  | cons x r ih => simp only [sumL, strsT]; omega
theorem first_eq (kd : Int) (nm : List UInt8) (ns : List (List UInt8)) (e a : Ex) (g : Exs) (lo hi : Nat) (bd el : Sts) : firstT kd nm ns e.text a.text g.texts lo hi = (St.mk kd nm ns e a g lo hi bd el).first := rfl
theorem first_len {x : St} (h : x.fine) : x.first.length ≤ 100 + 30 * x.total := by
  obtain ⟨kd, nm, ns, e, a, g, lo, hi, bd, el⟩ := x
  obtain ⟨⟨he, ha, hg, hlo, hhi⟩, _⟩ := h
  have h1 := e.text_le he
  have h2 := a.text_le ha
  have h3 := g.text_le hg
  have h4 := joinL_len g.texts
  have h5 := joinL_len ns
  have h6 := sumL_strs ns
  have h7 := dec_len hlo
  have h8 := dec_len hhi
  rw [← first_eq]
  simp only [St.total, firstT]
  repeat' split
  all_goals (simp only [List.length_append, List.length_cons, List.length_nil]; omega)
/-- each line: how far in, how long -/
def LnOk (t d m : Nat) (x : Nat × List UInt8) : Prop := t ≤ x.1 ∧ x.1 < t + d ∧ x.2.length ≤ 100 + 30 * m
mutual
theorem St.lines_ok : ∀ (x : St) (t : Nat), x.fine → ∀ y ∈ x.lines t, LnOk t x.deep x.total y
  | .mk kd nm ns e a g lo hi bd el, t, h => by
    have hf := first_len h
    have hb := Sts.lines_ok bd (t + 1) h.2.1
    have hl := Sts.lines_ok el (t + 1) h.2.2
    intro y hy
    simp only [St.lines, List.mem_cons] at hy
    simp only [St.deep, St.total] at *
    rcases hy with rfl | hy
    · exact ⟨Nat.le_refl _, by simp only []; omega, hf⟩
    · split at hy
      · rw [List.mem_append, List.mem_append] at hy
        rcases hy with hy | hy | hy
        · have := hb y hy; exact ⟨by have := this.1; omega, by have := this.2.1; omega, by have := this.2.2; omega⟩
        · split at hy
          · cases hy
          · rw [List.mem_cons] at hy
            rcases hy with rfl | hy
            · exact ⟨Nat.le_refl _, by simp only []; omega, by simp only [elseT, List.length_cons, List.length_nil]; omega⟩
            · have := hl y hy; exact ⟨by have := this.1; omega, by have := this.2.1; omega, by have := this.2.2; omega⟩
        · rw [List.mem_singleton] at hy
          subst hy
          exact ⟨Nat.le_refl _, by simp only []; omega, by simp only [List.length_cons, List.length_nil]; omega⟩
      · cases hy
theorem Sts.lines_ok : ∀ (l : Sts) (t : Nat), l.fine → ∀ y ∈ l.lines t, LnOk t l.deep l.total y
  | .nil, _, _ => fun _ h => by cases h
  | .cons x r, t, h => by
    have hx := St.lines_ok x t h.1
    have hr := Sts.lines_ok r t h.2
    intro y hy
    simp only [Sts.lines, List.mem_append] at hy
    simp only [Sts.deep, Sts.total]
    rcases hy with hy | hy
    · have := hx y hy; exact ⟨this.1, by have := this.2.1; omega, by have := this.2.2; omega⟩
    · have := hr y hy; exact ⟨this.1, by have := this.2.1; omega, by have := this.2.2; omega⟩
end

def shutO (o : Int) (s : List UInt8) : Int := if s.headD 0 = 125 then o - 1 else o
def stepO (o : Int) (s : List UInt8) : Int := if s.getLastD 0 = 123 then shutO o s + 1 else shutO o s
def openT : List (Nat × List UInt8) → Int → Int
  | [], o => o
  | x :: r, o => openT r (stepO o x.2)
def Braced : List (Nat × List UInt8) → Int → Prop
  | [], _ => True
  | x :: r, o => (x.2 ≠ [] ∧ (x.1 : Int) = shutO o x.2) ∧ Braced r (stepO o x.2)
theorem openT_app : ∀ (l r : List (Nat × List UInt8)) (o : Int), openT (l ++ r) o = openT r (openT l o)
  | [], _, _ => rfl
  | _x :: l, r, _o => openT_app l r _
theorem Braced.app : ∀ (l r : List (Nat × List UInt8)) (o : Int), Braced l o → Braced r (openT l o) → Braced (l ++ r) o
  | [], _, _, _, h => h
  | _x :: l, r, _o, h, k => ⟨h.1, Braced.app l r _ h.2 k⟩
theorem Braced.get : ∀ (l : List (Nat × List UInt8)) (o : Int), Braced l o → ∀ (k : Nat) (x : Nat × List UInt8), l[k]? = some x → x.2 ≠ [] ∧ (x.1 : Int) = shutO (openT (l.take k) o) x.2 ∧ openT (l.take (k + 1)) o = stepO (openT (l.take k) o) x.2
  | [], _, _, k, x, hk => by simp at hk
  | y :: l, o, h, 0, x, hk => by simp at hk; subst hk; exact ⟨h.1.1, h.1.2, rfl⟩
  | y :: l, o, h, k + 1, x, hk => by
    have := Braced.get l _ h.2 k x (by simpa using hk)
    simpa [List.take_succ_cons, openT] using this
theorem name_head {nm r : List UInt8} (h : nameB nm = true) : (nm ++ r).headD 0 ≠ 125 ∧ nm ++ r ≠ [] := by
  cases nm with
  | nil => rw [name_ne0] at h; cases h
  | cons c s =>
    simp only [nameB, Bool.and_eq_true] at h
    have hc := h.1.1.2
    refine ⟨?_, by simp⟩
    intro he
    simp only [List.headD_cons, List.cons_append] at he hc
    subst he
    revert hc; decide
where name_ne0 : nameB [] = false := by decide
theorem stepO_flat {o : Int} {s : List UInt8} (h : s.headD 0 ≠ 125) (k : s.getLastD 0 ≠ 123) : stepO o s = o := by rw [stepO, if_neg k, shutO, if_neg h]
theorem last_app (a b : List UInt8) (c : UInt8) : (a ++ (b ++ [c])).getLastD 0 = c := by
  rw [← List.append_assoc, List.getLastD_eq_getLast?, List.getLast?_append]; simp
theorem last_one (a : List UInt8) (c : UInt8) : (a ++ [c]).getLastD 0 = c := by
  rw [List.getLastD_eq_getLast?, List.getLast?_append]; simp
theorem last_two (a : List UInt8) (b c : UInt8) : (a ++ [b, c]).getLastD 0 = c := last_app a [b] c
theorem head_app (c : UInt8) (r s : List UInt8) : ((c :: r) ++ s).headD 0 = c := rfl
theorem join_head {ns : List (List UInt8)} (r : List UInt8) (h : namesB ns = true) (h0 : ns.length ≠ 0) : (Lib.join ns [44, 32] ++ r).headD 0 ≠ 125 ∧ Lib.join ns [44, 32] ++ r ≠ [] := by
  cases ns with
  | nil => exact absurd rfl h0
  | cons x s =>
    simp only [namesB, List.all_cons, Bool.and_eq_true] at h
    rw [Lib.join_cons, List.append_assoc]
    exact name_head h.1
theorem first_braced {x : St} (h : x.may = true) : x.first ≠ [] ∧ x.first.headD 0 ≠ 125 ∧ (x.first.getLastD 0 = 123 ↔ (x.kind = 3 ∨ x.kind = 4 ∨ x.kind = 5)) := by
  obtain ⟨kd, nm, ns, e, a, g, lo, hi, bd, el⟩ := x
  have hno : kd < 1 ∨ 6 < kd ∨ kd = 1 ∨ kd = 2 ∨ kd = 3 ∨ kd = 4 ∨ kd = 5 ∨ kd = 6 := by omega
  rw [← first_eq]
  simp only [St.kind]
  rcases hno with k | k | rfl | rfl | rfl | rfl | rfl | rfl
  · rw [st_may_no kd (.inl k)] at h; cases h
  · rw [st_may_no kd (.inr k)] at h; cases h
  · rw [st_may_1] at h; simp only [Bool.and_eq_true] at h
    have := name_head (r := [32, 61, 32] ++ e.text ++ [59]) h.1.1
    rw [firstT, if_pos rfl, last_one]
    simp only [List.append_assoc] at this ⊢
    exact ⟨this.2, this.1, by decide⟩
  · rw [st_may_2] at h; simp only [Bool.and_eq_true] at h
    have := name_head (r := [91] ++ a.text ++ [93] ++ [32, 61, 32] ++ e.text ++ [59]) h.1.1
    rw [firstT, if_neg (by decide), if_pos rfl, last_one]
    simp only [List.append_assoc] at this ⊢
    exact ⟨this.2, this.1, by decide⟩
  · rw [firstT, if_neg (by decide), if_neg (by decide), if_pos rfl, last_two]
    exact ⟨by simp, by rw [List.append_assoc, head_app]; decide, by decide⟩
  · rw [firstT, if_neg (by decide), if_neg (by decide), if_neg (by decide), if_pos rfl, last_two]
    exact ⟨by simp, by rw [List.append_assoc, head_app]; decide, by decide⟩
  · rw [firstT, if_neg (by decide), if_neg (by decide), if_neg (by decide), if_neg (by decide), if_pos rfl, last_two]
    exact ⟨by simp, by simp only [List.append_assoc]; rw [head_app]; decide, by decide⟩
  · rw [st_may_6] at h; simp only [Bool.and_eq_true] at h
    rw [firstT, if_neg (by decide), if_neg (by decide), if_neg (by decide), if_neg (by decide), if_neg (by decide)]
    split
    · have := name_head (r := [40] ++ Lib.join g.texts [44, 32] ++ [41] ++ [59]) h.1.1
      rw [last_one]
      simp only [List.append_assoc] at this ⊢
      exact ⟨this.2, this.1, by decide⟩
    · rename_i h0
      have := join_head (r := [32, 61, 32] ++ ((nm ++ ([40] ++ Lib.join g.texts [44, 32] ++ [41])) ++ [59])) h.1.2.1 h0
      rw [last_app]
      rw [List.append_assoc]
      exact ⟨this.2, this.1, by decide⟩
theorem open_shut (t : Nat) : Braced [(t, [125])] ((t + 1 : Nat) : Int) ∧ openT [(t, [125])] ((t + 1 : Nat) : Int) = (t : Int) := by
  have h1 : shutO ((t + 1 : Nat) : Int) [125] = (t : Int) := by
    have : shutO ((t + 1 : Nat) : Int) [125] = ((t + 1 : Nat) : Int) - 1 := if_pos rfl
    omega
  have h2 : stepO ((t + 1 : Nat) : Int) [125] = (t : Int) := by rw [stepO, if_neg (by decide), h1]
  exact ⟨⟨⟨by simp, h1.symm⟩, trivial⟩, h2⟩
theorem open_else (t : Nat) : shutO ((t + 1 : Nat) : Int) elseT = (t : Int) ∧ stepO ((t + 1 : Nat) : Int) elseT = ((t + 1 : Nat) : Int) := by
  have h0 : shutO ((t + 1 : Nat) : Int) elseT = ((t + 1 : Nat) : Int) - 1 := if_pos rfl
  have h1 : shutO ((t + 1 : Nat) : Int) elseT = (t : Int) := by omega
  have h2 : stepO ((t + 1 : Nat) : Int) elseT = shutO ((t + 1 : Nat) : Int) elseT + 1 := if_pos rfl
  exact ⟨h1, by omega⟩
mutual
theorem St.lines_braced : ∀ (x : St) (t : Nat), x.may = true → Braced (x.lines t) t ∧ openT (x.lines t) t = t
  | .mk kd nm ns e a g lo hi bd el, t, h => by
    obtain ⟨f1, f2, f3⟩ := first_braced h
    rw [← first_eq] at f1 f2 f3
    simp only [St.lines, St.kind] at f3 ⊢
    generalize firstT kd nm ns e.text a.text g.texts lo hi = s at *
    have hs : shutO (t : Int) s = (t : Int) := by rw [shutO, if_neg f2]
    by_cases hk : kd = 3 ∨ kd = 4 ∨ kd = 5
    · have hst : stepO (t : Int) s = ((t + 1 : Nat) : Int) := by rw [stepO, if_pos (f3.2 hk), hs]; omega
      have hb : bd.may = true := by
        rcases hk with rfl | rfl | rfl
        · rw [st_may_3] at h; simp only [Bool.and_eq_true] at h; exact h.1.2.1
        · rw [st_may_4] at h; simp only [Bool.and_eq_true] at h; exact h.1.2
        · rw [st_may_5] at h; simp only [Bool.and_eq_true] at h; exact h.1.2
      have hB := Sts.lines_braced bd (t + 1) hb
      rw [if_pos hk]
      by_cases h0 : el.len = 0
      · rw [if_pos h0, List.nil_append]
        refine ⟨⟨⟨f1, hs.symm⟩, ?_⟩, ?_⟩
        · rw [hst]; exact Braced.app _ _ _ hB.1 (by rw [hB.2]; exact (open_shut t).1)
        · rw [openT, hst, openT_app, hB.2]; exact (open_shut t).2
      · have he : el.may = true := by
          rcases hk with rfl | rfl | rfl
          · rw [st_may_3] at h; simp only [Bool.and_eq_true] at h; exact h.1.2.2
          · rw [st_may_4] at h; simp only [Bool.and_eq_true, St.isZero, decide_eq_true_eq] at h; exact absurd h.2.2.2.2.2.2.2.2.2.2 h0
          · rw [st_may_5] at h; simp only [Bool.and_eq_true, St.isZero, decide_eq_true_eq] at h; exact absurd h.2.2.2.2.2.2.2.2.2.2 h0
        have hE := Sts.lines_braced el (t + 1) he
        have oe := open_else t
        have hT0 : openT ((t, elseT) :: el.lines (t + 1)) ((t + 1 : Nat) : Int) = ((t + 1 : Nat) : Int) := by rw [openT]; simp only []; rw [oe.2, hE.2]
        have hTail : Braced (((t, elseT) :: el.lines (t + 1)) ++ [(t, [125])]) ((t + 1 : Nat) : Int) ∧ openT (((t, elseT) :: el.lines (t + 1)) ++ [(t, [125])]) ((t + 1 : Nat) : Int) = t := by
          constructor
          · refine Braced.app _ _ _ ⟨⟨by simp [elseT], oe.1.symm⟩, by simp only []; rw [oe.2]; exact hE.1⟩ ?_
            rw [hT0]; exact (open_shut t).1
          · rw [openT_app, hT0]; exact (open_shut t).2
        rw [if_neg h0]
        refine ⟨⟨⟨f1, hs.symm⟩, ?_⟩, ?_⟩
        · rw [hst]; exact Braced.app _ _ _ hB.1 (by rw [hB.2]; exact hTail.1)
        · rw [openT, hst, openT_app, hB.2]; exact hTail.2
    · have hst : stepO (t : Int) s = (t : Int) := by rw [stepO, if_neg (fun h => hk (f3.1 h)), hs]
      rw [if_neg hk]
      exact ⟨⟨⟨f1, hs.symm⟩, trivial⟩, by rw [openT, hst]; rfl⟩
theorem Sts.lines_braced : ∀ (l : Sts) (t : Nat), l.may = true → Braced (l.lines t) t ∧ openT (l.lines t) t = t
  | .nil, _, _ => ⟨trivial, rfl⟩
  | .cons x r, t, h => by
    rw [Sts.may, Bool.and_eq_true] at h
    have hx := St.lines_braced x t h.1
    have hr := Sts.lines_braced r t h.2
    simp only [Sts.lines]
    exact ⟨Braced.app _ _ _ hx.1 (by rw [hx.2]; exact hr.1), by rw [openT_app, hx.2]; exact hr.2⟩
end
end Go.Proofs.YtlhbledakddbbaaGreatDoor
/- How great statements and programs are that are short; where a list stands within another. -/
namespace Go.Proofs.YtlhbledakddbbaaGreatDoor
open Go.RowKit

theorem Exs.nil_of_len {a : Exs} (h : a.len = 0) : a = .nil := by cases a with | nil => rfl | cons => simp [Exs.len] at h
theorem Sts.nil_of_len {a : Sts} (h : a.len = 0) : a = .nil := by cases a with | nil => rfl | cons => simp [Sts.len] at h
mutual
theorem St.At.fine {w : World} {N : Nat} : ∀ (x : St) (b o : Nat), x.At w N b o → x.fine
  | .mk kd nm ns e a g lo hi bd el, b, o, h => by
    obtain ⟨⟨_, _, _, _, h4, h5⟩, _, he, ha, ⟨p2, c2, _, s2⟩, ⟨p3, c3, _, s3⟩, ⟨p4, c4, _, s4⟩⟩ := h
    refine ⟨⟨he.fine e _ _, ha.fine a _ _, ?_, h4, h5⟩, ?_, ?_⟩
    · rcases s2.2 with h0 | ⟨b', o', _, _, hr⟩
      · rw [Exs.nil_of_len h0]; trivial
      · exact hr.fine g _ _
    · rcases s3.2 with h0 | ⟨b', o', _, _, hr⟩
      · rw [Sts.nil_of_len h0]; trivial
      · exact Sts.At.fine bd b' o' hr
    · rcases s4.2 with h0 | ⟨b', o', _, _, hr⟩
      · rw [Sts.nil_of_len h0]; trivial
      · exact Sts.At.fine el b' o' hr
theorem Sts.At.fine {w : World} {N : Nat} : ∀ (l : Sts) (b o : Nat), l.At w N b o → l.fine
  | .nil, _, _, _ => trivial
  | .cons x r, b, o, h => ⟨St.At.fine x b o h.1, Sts.At.fine r b (o + 16) h.2⟩
end
theorem Sts.In.fine {w : World} {N : Nat} {l : Sts} {p : Option Addr} (h : l.In w N p) : l.fine := by
  rcases h.2 with h0 | ⟨b, o, _, _, hr⟩
  · rw [Sts.nil_of_len h0]; trivial
  · exact Sts.At.fine l b o hr
mutual
theorem St.wt_total : ∀ x : St, x.wt ≤ 10 * x.total
  | .mk kd nm ns e a g lo hi bd el => by
    have h1 := e.size_total
    have h2 := a.size_total
    have h3 := g.size_total
    have h4 := Sts.wt_total bd
    have h5 := Sts.wt_total el
    simp only [St.wt, St.total]; omega
theorem Sts.wt_total : ∀ l : Sts, l.wt ≤ 10 * l.total
  | .nil => by simp [Sts.wt]
  | .cons x r => by
    have h1 := St.wt_total x
    have h2 := Sts.wt_total r
    simp only [Sts.wt, Sts.total]; omega
end
/-- from d on L begins with S -/
def Seg {α : Type} (L : List α) (d : Nat) (S : List α) : Prop := ∃ T, L.drop d = S ++ T ∧ d ≤ L.length
theorem Seg.all {α : Type} (L : List α) : Seg L 0 L := ⟨[], by simp, Nat.zero_le _⟩
theorem Seg.len {α : Type} {L S : List α} {d : Nat} (h : Seg L d S) : d + S.length ≤ L.length := by
  obtain ⟨T, h, hd⟩ := h
  have := congrArg List.length h
  simp only [List.length_drop, List.length_append] at this
  omega
theorem Seg.get {α : Type} {L S : List α} {d : Nat} (h : Seg L d S) {j : Nat} {x : α} (hx : S[j]? = some x) : L[d + j]? = some x := by
  obtain ⟨T, h, _⟩ := h
  have hj : j < S.length := (List.getElem?_eq_some_iff.1 hx).1
  rw [← List.getElem?_drop, h, List.getElem?_append_left hj, hx]
theorem Seg.head {α : Type} {L S : List α} {d : Nat} {x : α} (h : Seg L d (x :: S)) : L[d]? = some x := by
  have := h.get (j := 0) (x := x) rfl
  simpa using this
theorem Seg.left {α : Type} {L A B : List α} {d : Nat} (h : Seg L d (A ++ B)) : Seg L d A := by
  obtain ⟨T, h, hd⟩ := h
  exact ⟨B ++ T, by rw [h, List.append_assoc], hd⟩
theorem Seg.right {α : Type} {L A B : List α} {d : Nat} (h : Seg L d (A ++ B)) : Seg L (d + A.length) B := by
  have hl := h.len
  obtain ⟨T, h, hd⟩ := h
  refine ⟨T, ?_, by rw [List.length_append] at hl; omega⟩
  rw [← List.drop_drop, h, List.append_assoc, List.drop_left]
theorem Seg.tail {α : Type} {L S : List α} {d : Nat} {x : α} (h : Seg L d (x :: S)) : Seg L (d + 1) S := Seg.right (A := [x]) h
theorem Seg.sub {α : Type} {L S M : List α} {d e : Nat} (h : Seg L d S) (k : Seg S e M) : Seg L (d + e) M := by
  have hl := h.len
  have kl := k.len
  obtain ⟨T, h, hd⟩ := h
  obtain ⟨U, k, ke⟩ := k
  refine ⟨U ++ T, ?_, by omega⟩
  rw [← List.drop_drop, h, List.drop_append_of_le_length ke, k, List.append_assoc]
end Go.Proofs.YtlhbledakddbbaaGreatDoor
/- Rows that are cloned: an append of what came in onto nothing. -/
namespace Go.Proofs.YtlhbledakddbbaaGreatDoor
open Go.RowKit

theorem add_of (b o j : Nat) : (⟨b, o, none⟩ : Addr).add j = ⟨b, o + j, none⟩ := by simp [Addr.add]
/-- a slice's cells, as append reads them -/
def Src (w : World) (size : Nat) (p : Option Addr) (m c : Nat) (news : List Value) : Prop :=
  news.length = m * size ∧ ((p = none ∧ m = 0 ∧ c = 0) ∨ ∃ ad, p = some ad ∧ ∀ j u, news[j]? = some u → w.cell? (ad.add j) = some u)

theorem wpList_append_src {P : Program} {w : World} {ops : Array Oper} {rest : List Oper} {o : Oper} {a : Act} {Q : Exit → Act → World → Prop} (hgd : o.guard = none) (s x : Operand) (t : TypeId)
    (ho : o.op = .call { callee := .builtin .append, args := #[s, x], argTypes := #[t, t] })
    (base : Nat) (e : TypeId) (i : TypeInfo) (z : Value) (size bytes : Nat) (ht : P.underlying t = some (.slice e)) (hi : P.info? e = some i) (hz : i.zero = some z)
    (hsize : i.size = size) (hby : i.bytes = bytes) (hzs : z.cells.size = size) (hsz : 0 < size)
    (v : Value) (n : Nat) (xs : List Value) (hs : a.eval s = v) (hown : w.ownsRow base e size v n xs)
    (p : Option Addr) (m c : Nat) (news : List Value) (hx : a.eval x = .slice p m c) (hsrc : Src w size p m c news) (h1 : ∀ u ∈ news, u.oneCell' = true)
    (h63 : n + m ≤ maxLen) (hbytes : (n + m) * bytes ≤ 140737488355328) (hbase : base ≤ w.heap.size)
    (h : ∀ v' w', w'.ownsRow base e size v' (n + m) (xs ++ news) → w.grownBy w' v.ownBlock → wpList P ops Q rest (a.put o.dst v') w') : wpList P ops Q (o :: rest) a w := by
  obtain ⟨hl, ⟨rfl, rfl, rfl⟩ | ⟨ad, rfl, hc⟩⟩ := hsrc
  · have : news = [] := List.eq_nil_of_length_eq_zero (by simpa using hl)
    subst this
    exact wpList_append_own_none hgd s x t ho base e i size ht hi v n xs hs hown hx (h v w (by simpa using hown) (World.grownBy.refl w _))
  · exact wpList_append_own w hgd s x t ho base e i z size bytes ht hi hz hsize hby hzs hsz v n xs hs hown ad m c news hx hl hc h1 h63 hbytes hbase fun v' w' h2 h3 _ => h v' w' h2 h3

theorem own_cap {w : World} {base : Nat} {e : TypeId} {size n : Nat} {v : Value} {xs : List Value} (h : w.ownsRow base e size v n xs) : ∃ p c, v = .slice p n c ∧ n ≤ c ∧ c ≤ maxLen ∧ (p = none → n = 0 ∧ c = 0) ∧ (∀ ad, p = some ad → ∃ g, ad = ⟨g, 0, none⟩ ∧ base ≤ g ∧ g < w.heap.size ∧ (∀ o, w.frozen? ⟨g, o, none⟩ = false) ∧ ∀ j u, xs[j]? = some u → w.cell? ⟨g, j, none⟩ = some u) := by
  rcases h.2 with ⟨rfl, rfl⟩ | ⟨g, cap, cur, rfl, hb, hg, hnc, hcm, _⟩
  · exact ⟨none, 0, rfl, Nat.le_refl _, Nat.zero_le _, fun _ => ⟨rfl, rfl⟩, fun _ h => by cases h⟩
  · refine ⟨_, cap, rfl, hnc, hcm, (fun h => (by cases h)), fun ad had => ?_⟩
    cases had
    refine ⟨g, rfl, hb, (h.lt g rfl).2, fun o => by simp [World.frozen?, hg], fun j u hu => ?_⟩
    have := h.cells (g := g) rfl j u hu
    rw [add_of, Nat.zero_add] at this; exact this

/-- a row of the call's own at block g, that may be written to -/
def RowG (w : World) (g : Nat) (cs : List Value) : Prop := g < w.heap.size ∧ (∀ o, w.frozen? ⟨g, o, none⟩ = false) ∧ ∀ j u, cs[j]? = some u → w.cell? ⟨g, j, none⟩ = some u
theorem RowG.later {w w' : World} {g : Nat} {cs : List Value} (h : RowG w g cs) (hB : Below w.heap.size w w') : RowG w' g cs :=
  ⟨Nat.lt_of_lt_of_le h.1 hB.size, fun o => (hB.frozen (p := ⟨g, o, none⟩) h.1).trans (h.2.1 o), fun j u hu => (hB.cell (p := ⟨g, j, none⟩) h.1).trans (h.2.2 j u hu)⟩
theorem RowG.set {w : World} {g i : Nat} {cs : List Value} {v : Value} (h : RowG w g cs) (hi : i < cs.length) : RowG (w.setCell ⟨g, i, none⟩ v) g (cs.set i v) := by
  obtain ⟨u0, hu0⟩ : ∃ u, cs[i]? = some u := ⟨_, List.getElem?_eq_getElem hi⟩
  refine ⟨by simp [World.setCell]; exact h.1, fun o => by rw [World.frozen?_setCell]; exact h.2.1 o, fun j u hj => ?_⟩
  by_cases e : i = j
  · subst e
    rw [List.getElem?_set_self hi] at hj
    cases hj
    exact World.cell?_setCell_same _ _ _ (h.2.2 i u0 hu0)
  · rw [List.getElem?_set_ne e] at hj
    rw [World.cell?_setCell_other _ _ _ _ (fun h => e (by cases h; rfl))]
    exact h.2.2 j u hj
/-- what a clone is -/
def Cloned (B : Nat) (w : World) (n : Nat) (cs : List Value) (v : Value) : Prop :=
  ∃ q d, v = .slice q n d ∧ n ≤ d ∧ ((q = none ∧ n = 0) ∨ ∃ g, q = some ⟨g, 0, none⟩ ∧ B ≤ g ∧ RowG w g cs)
theorem cloned_of {w : World} {base : Nat} {e : TypeId} {k n : Nat} {v : Value} {cs : List Value} (h : w.ownsRow base e k v n cs) : Cloned base w n cs v := by
  obtain ⟨q, d, hv, h1, h2, h3, h4⟩ := own_cap h
  refine ⟨q, d, hv, h1, ?_⟩
  cases q with
  | none => exact .inl ⟨rfl, (h3 rfl).1⟩
  | some ad =>
    obtain ⟨g, rfl, hb, hlt, hf, hc⟩ := h4 ad rfl
    exact .inr ⟨g, rfl, hb, hlt, hf, hc⟩
theorem Src.of {w : World} {k n c b o : Nat} {cs : List Value} (hl : cs.length = n * k) (h : ∀ j u, cs[j]? = some u → w.cell? ⟨b, o + j, none⟩ = some u) : Src w k (some ⟨b, o, none⟩) n c cs :=
  ⟨hl, .inr ⟨_, rfl, fun j u hu => by rw [add_of]; exact h j u hu⟩⟩
theorem Src.nil {w : World} {k c : Nat} {ad : Addr} : Src w k (some ad) 0 c [] := ⟨by simp, .inr ⟨ad, rfl, fun j u hu => by simp at hu⟩⟩
theorem info_str1 : (Tryz.prog.info? 9).map (fun i => (i.zero, i.size, i.bytes)) = some (some (.string ByteArray.empty), 1, 16) := by kernel_rfl
set_option maxHeartbeats 400000 in
theorem clone_str1_nil (w : World) (c : Nat) :
    Calls Tryz.prog 112 #[.slice none 0 c] w fun e w' => e = .returned (.slice none 0 0) ∧ w = w' := by
  have q22 : ∀ (w : World) (a : Option Addr) (n c n' c' : Nat), (binOp .eql 46 (.slice a n c) (.slice none n' c')).run Tryz.prog w = .ok (.bool a.isNone) w := fun w a n c n' c' => Lib.run_eql_slice_nil w _ _ a n c n' c' Tryz.underlying46
  go_enter Tryz.func112, Tryz.ntmps112
  go_wp2_with fail
  go_ret
  exact ⟨rfl, rfl⟩
set_option maxRecDepth 100000 in
set_option maxHeartbeats 1600000 in
theorem clone_str1_some (ad : Addr) (n c : Nat) (cs : List Value) (w : World) (h : Src w 1 (some ad) n c cs) (h1 : ∀ u ∈ cs, u.oneCell' = true) (hn : n ≤ 1000000) :
    Calls Tryz.prog 112 #[.slice (some ad) n c] w fun e w' => (∃ v, e = .returned v ∧ Cloned w.heap.size w' n cs v) ∧ Below w.heap.size w w' := by
  obtain ⟨i0, hi, hz0, hz1, hz2⟩ := info_parts info_str1
  have q22 : ∀ (w : World) (a : Option Addr) (n c n' c' : Nat), (binOp .eql 46 (.slice a n c) (.slice none n' c')).run Tryz.prog w = .ok (.bool a.isNone) w := fun w a n c n' c' => Lib.run_eql_slice_nil w _ _ a n c n' c' Tryz.underlying46
  go_enter Tryz.func112, Tryz.ntmps112
  go_wp2_with (at_builtin; refine wpList_append_src rfl _ _ 46 rfl w.heap.size 9 i0 (.string ByteArray.empty) 1 16 Tryz.underlying46 hi hz0 hz1 hz2 rfl (by decide) _ _ _ rfl (World.ownsRow_made w #[] 0 (Nat.le_refl _) (Nat.zero_le _) rfl) _ _ _ cs rfl ?q1 h1 ?q3 ?q4 ?q5 ?_)
  case q1 => exact ⟨h.1, h.2.imp (fun h => by cases h.1) (fun ⟨a, ha, hc⟩ => ⟨a, ha, fun j u hu => ((Below.refl w.heap.size w).alloc (Nat.le_refl _) _).cell (World.block_lt_of_cell? _ _ (hc j u hu)) |>.trans (hc j u hu)⟩)⟩
  case q3 => unfold maxLen; omega
  case q4 => omega
  case q5 => simp
  intro v' w1 hown hgrow
  have HO := Lib.hid (cloned_of (by simpa using hown))
  have HB := Lib.hid (((Below.refl _ w).alloc (Nat.le_refl _) _).grown hgrow (by simp) (by intro k hk; simp [Value.ownBlock] at hk; omega))
  clear hown hgrow
  go_wp2_with fail
  go_ret
  exact ⟨⟨v', rfl, HO.out⟩, HB.out⟩
theorem info_ex4 : (Tryz.prog.info? 26).map (fun i => (i.zero, i.size, i.bytes)) = some (some (.agg #[.int .i64 0, .int .u64 0, .string ByteArray.empty, .slice none 0 0]), 4, 56) := by kernel_rfl
set_option maxHeartbeats 400000 in
theorem clone_ex4_nil (w : World) (c : Nat) :
    Calls Tryz.prog 139 #[.slice none 0 c] w fun e w' => e = .returned (.slice none 0 0) ∧ w = w' := by
  have q22 : ∀ (w : World) (a : Option Addr) (n c n' c' : Nat), (binOp .eql 24 (.slice a n c) (.slice none n' c')).run Tryz.prog w = .ok (.bool a.isNone) w := fun w a n c n' c' => Lib.run_eql_slice_nil w _ _ a n c n' c' Tryz.underlying24
  go_enter Tryz.func139, Tryz.ntmps139
  go_wp2_with fail
  go_ret
  exact ⟨rfl, rfl⟩
set_option maxRecDepth 100000 in
set_option maxHeartbeats 1600000 in
theorem clone_ex4_some (ad : Addr) (n c : Nat) (cs : List Value) (w : World) (h : Src w 4 (some ad) n c cs) (h1 : ∀ u ∈ cs, u.oneCell' = true) (hn : n ≤ 1000000) :
    Calls Tryz.prog 139 #[.slice (some ad) n c] w fun e w' => (∃ v, e = .returned v ∧ Cloned w.heap.size w' n cs v) ∧ Below w.heap.size w w' := by
  obtain ⟨i0, hi, hz0, hz1, hz2⟩ := info_parts info_ex4
  have q22 : ∀ (w : World) (a : Option Addr) (n c n' c' : Nat), (binOp .eql 24 (.slice a n c) (.slice none n' c')).run Tryz.prog w = .ok (.bool a.isNone) w := fun w a n c n' c' => Lib.run_eql_slice_nil w _ _ a n c n' c' Tryz.underlying24
  go_enter Tryz.func139, Tryz.ntmps139
  go_wp2_with (at_builtin; refine wpList_append_src rfl _ _ 24 rfl w.heap.size 26 i0 (.agg #[.int .i64 0, .int .u64 0, .string ByteArray.empty, .slice none 0 0]) 4 56 Tryz.underlying24 hi hz0 hz1 hz2 rfl (by decide) _ _ _ rfl (World.ownsRow_made w #[] 0 (Nat.le_refl _) (Nat.zero_le _) rfl) _ _ _ cs rfl ?q1 h1 ?q3 ?q4 ?q5 ?_)
  case q1 => exact ⟨h.1, h.2.imp (fun h => by cases h.1) (fun ⟨a, ha, hc⟩ => ⟨a, ha, fun j u hu => ((Below.refl w.heap.size w).alloc (Nat.le_refl _) _).cell (World.block_lt_of_cell? _ _ (hc j u hu)) |>.trans (hc j u hu)⟩)⟩
  case q3 => unfold maxLen; omega
  case q4 => omega
  case q5 => simp
  intro v' w1 hown hgrow
  have HO := Lib.hid (cloned_of (by simpa using hown))
  have HB := Lib.hid (((Below.refl _ w).alloc (Nat.le_refl _) _).grown hgrow (by simp) (by intro k hk; simp [Value.ownBlock] at hk; omega))
  clear hown hgrow
  go_wp2_with fail
  go_ret
  exact ⟨⟨v', rfl, HO.out⟩, HB.out⟩
theorem info_st16 : (Tryz.prog.info? 54).map (fun i => (i.zero, i.size, i.bytes)) = some (some (.agg #[.int .i64 0, .string ByteArray.empty, .slice none 0 0, .int .i64 0, .int .u64 0, .string ByteArray.empty, .slice none 0 0, .int .i64 0, .int .u64 0, .string ByteArray.empty, .slice none 0 0, .slice none 0 0, .int .u64 0, .int .u64 0, .slice none 0 0, .slice none 0 0]), 16, 248) := by kernel_rfl
set_option maxHeartbeats 400000 in
theorem clone_st16_nil (w : World) (c : Nat) :
    Calls Tryz.prog 111 #[.slice none 0 c] w fun e w' => e = .returned (.slice none 0 0) ∧ w = w' := by
  have q22 : ∀ (w : World) (a : Option Addr) (n c n' c' : Nat), (binOp .eql 47 (.slice a n c) (.slice none n' c')).run Tryz.prog w = .ok (.bool a.isNone) w := fun w a n c n' c' => Lib.run_eql_slice_nil w _ _ a n c n' c' Tryz.underlying47
  go_enter Tryz.func111, Tryz.ntmps111
  go_wp2_with fail
  go_ret
  exact ⟨rfl, rfl⟩
set_option maxRecDepth 100000 in
set_option maxHeartbeats 1600000 in
theorem clone_st16_some (ad : Addr) (n c : Nat) (cs : List Value) (w : World) (h : Src w 16 (some ad) n c cs) (h1 : ∀ u ∈ cs, u.oneCell' = true) (hn : n ≤ 1000000) :
    Calls Tryz.prog 111 #[.slice (some ad) n c] w fun e w' => (∃ v, e = .returned v ∧ Cloned w.heap.size w' n cs v) ∧ Below w.heap.size w w' := by
  obtain ⟨i0, hi, hz0, hz1, hz2⟩ := info_parts info_st16
  have q22 : ∀ (w : World) (a : Option Addr) (n c n' c' : Nat), (binOp .eql 47 (.slice a n c) (.slice none n' c')).run Tryz.prog w = .ok (.bool a.isNone) w := fun w a n c n' c' => Lib.run_eql_slice_nil w _ _ a n c n' c' Tryz.underlying47
  go_enter Tryz.func111, Tryz.ntmps111
  go_wp2_with (at_builtin; refine wpList_append_src rfl _ _ 47 rfl w.heap.size 54 i0 (.agg #[.int .i64 0, .string ByteArray.empty, .slice none 0 0, .int .i64 0, .int .u64 0, .string ByteArray.empty, .slice none 0 0, .int .i64 0, .int .u64 0, .string ByteArray.empty, .slice none 0 0, .slice none 0 0, .int .u64 0, .int .u64 0, .slice none 0 0, .slice none 0 0]) 16 248 Tryz.underlying47 hi hz0 hz1 hz2 rfl (by decide) _ _ _ rfl (World.ownsRow_made w #[] 0 (Nat.le_refl _) (Nat.zero_le _) rfl) _ _ _ cs rfl ?q1 h1 ?q3 ?q4 ?q5 ?_)
  case q1 => exact ⟨h.1, h.2.imp (fun h => by cases h.1) (fun ⟨a, ha, hc⟩ => ⟨a, ha, fun j u hu => ((Below.refl w.heap.size w).alloc (Nat.le_refl _) _).cell (World.block_lt_of_cell? _ _ (hc j u hu)) |>.trans (hc j u hu)⟩)⟩
  case q3 => unfold maxLen; omega
  case q4 => omega
  case q5 => simp
  intro v' w1 hown hgrow
  have HO := Lib.hid (cloned_of (by simpa using hown))
  have HB := Lib.hid (((Below.refl _ w).alloc (Nat.le_refl _) _).grown hgrow (by simp) (by intro k hk; simp [Value.ownBlock] at hk; omega))
  clear hown hgrow
  go_wp2_with fail
  go_ret
  exact ⟨⟨v', rfl, HO.out⟩, HB.out⟩
end Go.Proofs.YtlhbledakddbbaaGreatDoor
/- Expressions copied: the program's copyExprs. -/
namespace Go.Proofs.YtlhbledakddbbaaGreatDoor
open Go.RowKit

/-- rows of things, each with where its slices lie -/
def encs {α σ : Type} (enc : α → σ → List Value) (zs : List (α × σ)) : List Value := zs.flatMap fun z => enc z.1 z.2
theorem encs_nil {α σ : Type} (enc : α → σ → List Value) : encs enc [] = [] := rfl
theorem encs_cons {α σ : Type} (enc : α → σ → List Value) (z : α × σ) (r : List (α × σ)) : encs enc (z :: r) = enc z.1 z.2 ++ encs enc r := rfl
theorem encs_app {α σ : Type} (enc : α → σ → List Value) (a b : List (α × σ)) : encs enc (a ++ b) = encs enc a ++ encs enc b := by simp [encs]
theorem encs_len {α σ : Type} {enc : α → σ → List Value} {k : Nat} (hk : ∀ x s, (enc x s).length = k) : ∀ zs : List (α × σ), (encs enc zs).length = zs.length * k
  | [] => by simp [encs]
  | z :: r => by rw [encs_cons, List.length_append, hk, encs_len hk r, List.length_cons, Nat.add_mul]; omega
theorem encs_get {α σ : Type} {enc : α → σ → List Value} {k : Nat} (hk : ∀ x s, (enc x s).length = k) (d : List (α × σ)) (z : α × σ) (r : List (α × σ)) {i : Nat} {u : Value} (h : (enc z.1 z.2)[i]? = some u) : (encs enc (d ++ z :: r))[d.length * k + i]? = some u := by
  have hi : i < (enc z.1 z.2).length := (List.getElem?_eq_some_iff.1 h).1
  rw [encs_app, List.getElem?_append_right (by rw [encs_len hk]; omega), encs_len hk, Nat.add_sub_cancel_left, encs_cons, List.getElem?_append_left hi, h]
theorem encs_set {α σ : Type} {enc : α → σ → List Value} {k : Nat} (hk : ∀ x s, (enc x s).length = k) (d : List (α × σ)) (z z' : α × σ) (r : List (α × σ)) {i : Nat} {u : Value} (hi : i < k) (h : (enc z.1 z.2).set i u = enc z'.1 z'.2) : (encs enc (d ++ z :: r)).set (d.length * k + i) u = encs enc (d ++ z' :: r) := by
  rw [encs_app, encs_app, List.set_append_right _ _ (by rw [encs_len hk]; omega), encs_len hk, Nat.add_sub_cancel_left, encs_cons, encs_cons, List.set_append_left _ _ (by rw [hk]; exact hi), h]
theorem Row.openZ {α σ : Type} {A : α → Nat → Nat → Prop} {enc : α → σ → List Value} {k b : Nat} {w : World} {OK : α → σ → Prop} (hk : ∀ x s, (enc x s).length = k)
    (op : ∀ x o, A x b o → ∃ s, (∀ j v, (enc x s)[j]? = some v → w.cell? ⟨b, o + j, none⟩ = some v) ∧ OK x s) : ∀ (xs : List α) (o : Nat), Row A k xs b o →
    ∃ zs : List (α × σ), zs.map Prod.fst = xs ∧ (∀ j u, (encs enc zs)[j]? = some u → w.cell? ⟨b, o + j, none⟩ = some u) ∧ ∀ z ∈ zs, OK z.1 z.2
  | [], _, _ => ⟨[], rfl, fun _ _ h => by simp [encs] at h, fun _ h => by cases h⟩
  | x :: r, o, h => by
    obtain ⟨s, hs, ok⟩ := op x o h.1
    obtain ⟨zs, hm, hc, ho⟩ := Row.openZ hk op r (o + k) h.2
    refine ⟨(x, s) :: zs, by rw [List.map_cons, hm], fun j u hu => ?_, fun z hz => ?_⟩
    · rw [encs_cons] at hu
      by_cases hj : j < k
      · rw [List.getElem?_append_left (by rw [hk]; exact hj)] at hu
        exact hs j u hu
      · rw [List.getElem?_append_right (by rw [hk]; omega), hk] at hu
        have := hc (j - k) u hu
        rw [show o + k + (j - k) = o + j by omega] at this
        exact this
    · rcases List.mem_cons.1 hz with rfl | hz
      · exact ok
      · exact ho z hz
theorem Row.closeZ {α σ : Type} {A : α → Nat → Nat → Prop} {enc : α → σ → List Value} {k b : Nat} {w : World} (hk : ∀ x s, (enc x s).length = k)
    : ∀ (zs : List (α × σ)) (o : Nat), (∀ z ∈ zs, ∀ o, (∀ j v, (enc z.1 z.2)[j]? = some v → w.cell? ⟨b, o + j, none⟩ = some v) → A z.1 b o) → (∀ j u, (encs enc zs)[j]? = some u → w.cell? ⟨b, o + j, none⟩ = some u) → Row A k (zs.map Prod.fst) b o
  | [], _, _, _ => trivial
  | z :: r, o, hA, h => by
    refine ⟨hA z (by simp) o fun j v hv => h j v ?_, Row.closeZ hk r (o + k) (fun y hy => hA y (by simp [hy])) fun j u hu => ?_⟩
    · rw [encs_cons, List.getElem?_append_left (List.getElem?_eq_some_iff.1 hv).1]; exact hv
    · have := h (k + j) u (by rw [encs_cons, List.getElem?_append_right (by rw [hk]; omega), hk, Nat.add_sub_cancel_left]; exact hu)
      rw [show o + (k + j) = o + k + j by omega] at this
      exact this
/-- worlds that agree from A on, below B -/
def Agr (A B : Nat) (w W : World) : Prop := B ≤ W.heap.size ∧ ∀ k, A ≤ k → k < B → W.heap[k]? = w.heap[k]?
theorem Agr.mono {A B A' B' : Nat} {w W : World} (h : Agr A B w W) (hA : A ≤ A') (hB : B' ≤ B) : Agr A' B' w W := ⟨Nat.le_trans hB h.1, fun k h1 h2 => h.2 k (by omega) (by omega)⟩
theorem Agr.trans {A B : Nat} {w v W : World} (h : Agr A B w v) (k : Agr A B v W) : Agr A B w W := ⟨k.1, fun i h1 h2 => (k.2 i h1 h2).trans (h.2 i h1 h2)⟩
theorem Agr.of_below {A B : Nat} {w W : World} (h : Below B w W) (hB : B ≤ w.heap.size) : Agr A B w W := ⟨Nat.le_trans hB h.size, fun k _ h2 => h.block k h2⟩
theorem Agr.set {A B g : Nat} {w : World} (hg : g < A) (hB : B ≤ w.heap.size) (o : Nat) (v : Value) : Agr A B w (w.setCell ⟨g, o, none⟩ v) :=
  ⟨by simp [World.setCell]; exact hB, fun k h1 _ => Below.heap_setCell _ _ _ _ (by show k ≠ g; omega)⟩
theorem Agr.cell {A B : Nat} {w W : World} (h : Agr A B w W) {g o : Nat} (h1 : A ≤ g) (h2 : g < B) : W.cell? ⟨g, o, none⟩ = w.cell? ⟨g, o, none⟩ := World.cell?_of_block (h.2 g h1 h2)
/-- it stays wherever the blocks from A to B are as they were -/
def Fresh (A B : Nat) (w : World) (Pp : World → Nat → Prop) : Prop := ∀ W, Agr A B w W → Pp W B
theorem Fresh.grow {A B A' B' : Nat} {w w' : World} {Pp : World → Nat → Prop} (h : Fresh A B w Pp) (hA : A' ≤ A) (hB : B ≤ B') (hw : Agr A B w w') (hP : ∀ W, B' ≤ W.heap.size → Pp W B → Pp W B') : Fresh A' B' w' Pp :=
  fun W hW => hP W hW.1 (h W (hw.trans (hW.mono hA hB)))

def exC (x : Ex) (s : Option Addr × Nat) : List Value := [.int .i64 x.op, .int .u64 (x.word : Int), .string (str x.name), .slice s.1 x.args.len s.2]
theorem exC_len (x : Ex) (s : Option Addr × Nat) : (exC x s).length = 4 := rfl
theorem one_exC (zs : List (Ex × (Option Addr × Nat))) : ∀ u ∈ encs exC zs, u.oneCell' = true := by
  intro u hu
  obtain ⟨z, _, hz⟩ := List.mem_flatMap.1 hu
  simp only [exC, List.mem_cons, List.not_mem_nil, or_false] at hz
  rcases hz with rfl | rfl | rfl | rfl <;> rfl
theorem Exs.ofRow {w : World} {N b : Nat} : ∀ (l : Exs) (o : Nat), Row (Ex.At w N) 4 l.toL b o → l.At w N b o
  | .nil, _, _ => trivial
  | .cons _x r, o, h => ⟨h.1, Exs.ofRow r (o + 4) h.2⟩
theorem Exs.In.up {w : World} {l : Exs} {p : Option Addr} {N M : Nat} (h : l.In w N p) (hM : N ≤ M) : l.In w M p := h.later (Below.refl N w) hM
/-- a clone of expressions -/
theorem cloneE_any (l : Exs) (p : Option Addr) (c N : Nat) (w : World) (hn : l.len ≤ 1000000) (h : l.In w N p) :
    Calls Tryz.prog 139 #[.slice p l.len c] w fun e w' => (∃ q d zs, e = .returned (.slice q l.len d) ∧ zs.map Prod.fst = l.toL ∧ (∀ z ∈ zs, z.1.Ok w N z.2.1) ∧ ((q = none ∧ l.len = 0) ∨ ∃ g, q = some ⟨g, 0, none⟩ ∧ w.heap.size ≤ g ∧ RowG w' g (encs exC zs))) ∧ Below w.heap.size w w' := by
  cases p with
  | none =>
    have h0 : l.len = 0 := by
      rcases h.2 with h0 | ⟨b, o, hq, _⟩
      · exact h0
      · cases hq
    rw [h0]
    refine (clone_ex4_nil w c).mono ?_
    rintro e w' ⟨rfl, rfl⟩
    refine ⟨⟨none, 0, [], rfl, ?_, (fun _ hz => by cases hz), .inl ⟨rfl, rfl⟩⟩, Below.refl _ _⟩
    have := Exs.toL_len l
    rw [h0] at this
    exact (List.length_eq_zero_iff.1 this.symm).symm
  | some ad =>
    obtain ⟨zs, hm, hok, hsrc⟩ : ∃ zs : List (Ex × (Option Addr × Nat)), zs.map Prod.fst = l.toL ∧ (∀ z ∈ zs, z.1.Ok w N z.2.1) ∧ Src w 4 (some ad) l.len c (encs exC zs) := by
      by_cases h0 : l.len = 0
      · have := Exs.toL_len l
        rw [h0] at this
        rw [h0, List.length_eq_zero_iff.1 this.symm]
        exact ⟨[], rfl, (fun _ hz => by cases hz), Src.nil⟩
      · rcases h.2 with h1 | ⟨b, o, hq, hb, ha⟩
        · exact absurd h1 h0
        · cases hq
          obtain ⟨zs, hm, hc, hok⟩ := Row.openZ (enc := exC) (OK := fun x s => x.Ok w N s.1) exC_len (fun x o hx => by
            obtain ⟨p, c, e0, e1, e2, e3, ok⟩ := hx.open'
            refine ⟨(p, c), fun j v hv => ?_, ok⟩
            rcases j with _ | _ | _ | _ | j
            all_goals first | (cases hv; assumption) | (simp [exC] at hv)) l.toL o (Exs.row l o ha)
          refine ⟨zs, hm, hok, Src.of ?_ hc⟩
          rw [encs_len exC_len, Exs.toL_len, ← hm, List.length_map]
    refine (clone_ex4_some ad l.len c _ w hsrc (one_exC zs) hn).mono ?_
    rintro e w' ⟨⟨v, rfl, q, d, rfl, hd, hq⟩, hB⟩
    exact ⟨⟨q, d, zs, rfl, hm, hok, hq⟩, hB⟩

def CpE (n : Nat) : Prop := ∀ l : Exs, l.size < n → l.size ≤ 1000000 → ∀ (p : Option Addr) (c N : Nat) (w : World), N ≤ w.heap.size → l.In w N p →
    Calls Tryz.prog 113 #[.slice p l.len c] w fun e w' => (∃ q d, e = .returned (.slice q l.len d) ∧ Fresh w.heap.size w'.heap.size w' (fun W B => l.In W B q)) ∧ Below w.heap.size w w'
theorem Exs.len_size : ∀ l : Exs, l.len ≤ l.size
  | .nil => Nat.zero_le _
  | .cons x r => by have := Exs.len_size r; simp only [Exs.len, Exs.size]; omega
set_option maxRecDepth 100000 in
set_option maxHeartbeats 3200000 in
theorem cpE_step (n : Nat) (ih : CpE n) : CpE (n + 1) := by
  intro l hsz h6 p c N w hN hin
  have hls := Exs.len_size l
  have HC := Lib.hid (cloneE_any l p c N w (by omega) hin)
  have IH := Lib.hid ih
  have hxs : ∀ x ∈ l.toL, x.args.size < n ∧ x.args.size ≤ 1000000 := fun x hx => by
    have := Exs.toL_size hx
    have h2 : x.args.size < x.size := by cases x; simp only [Ex.args, Ex.size]; omega
    omega
  have HXs := Lib.hid hxs
  have hl63 := hin.1
  have HLl := Lib.hid (Exs.toL_len l)
  clear hin ih hxs
  go_enter Tryz.func113, Tryz.ntmps113
  go_wp2_with fail
  refine HC.out.mono ?_
  rintro e w1 ⟨⟨q, d, zs, rfl, hm, hok, hq⟩, hB⟩
  have HM := Lib.hid hm
  have HOk := Lib.hid hok
  have HB1 := Lib.hid hB
  have hzl : zs.length = l.len := by rw [HLl.out, ← hm, List.length_map]
  clear hm hok hB HC
  rcases hq with ⟨rfl, h0⟩ | ⟨g, rfl, hg, hrow⟩
  · rw [h0]
    go_wp2_with fail
    go_loopw [9] (fun i wr => i = .int .i64 0 ∧ wr = w1) (fun _ _ => 0)
    case atStart => exact ⟨rfl, rfl⟩
    case round =>
      obtain ⟨rfl, rfl⟩ := hrel
      go_wp2_with fail
      go_ret
      exact ⟨⟨none, d, by rw [h0]; rfl, fun W hW => ⟨by omega, .inl h0⟩⟩, HB1.out⟩
  · have HRow := Lib.hid hrow
    have HG := Lib.hid hg
    clear hrow
    go_wp2_with fail
    go_loopw [9] (fun i wr => ∃ dn rs : List (Ex × (Option Addr × Nat)), i = .int .i64 dn.length ∧ dn.length + rs.length = l.len ∧ Hid ((dn ++ rs).map Prod.fst = l.toL) ∧ Hid (RowG wr g (encs exC (dn ++ rs))) ∧ Hid (∀ z ∈ dn, Fresh (g + 1) wr.heap.size wr (fun W B => z.1.Ok W B z.2.1)) ∧ Hid (∀ z ∈ rs, z.1.Ok w N z.2.1) ∧ Hid (Below w.heap.size w wr)) (fun i _ => l.len - (intOf i).toNat)
    case atStart => exact ⟨[], zs, rfl, by simp; exact hzl, HM, HRow, Lib.hid (fun _ h => by cases h), HOk, HB1⟩
    case round =>
      obtain ⟨dn, rs, rfl, hk, hM, hR, hF, hO, hB⟩ := hrel
      cases rs with
      | nil =>
        simp only [List.length_nil, Nat.add_zero] at hk
        have hge : ¬ dn.length < l.len := by omega
        go_wp2_with fail
        go_ret
        refine ⟨⟨some ⟨g, 0, none⟩, d, rfl, fun W hW => ?_⟩, hB.out⟩
        have hgz := hR.out.1
        have hM' := hM.out
        rw [List.append_nil] at hM'
        have hR' := hR.out
        rw [List.append_nil] at hR'
        refine ⟨hl63, .inr ⟨g, 0, rfl, hgz, Exs.ofRow l 0 ?_⟩⟩
        rw [← hM']
        refine Row.closeZ (w := W) exC_len dn 0 (fun z hz o hc => ?_) (fun j u hu => ?_)
        · have ok := hF.out z hz W (hW.mono (by omega) (Nat.le_refl _))
          exact Ex.At.mk' (p := z.2.1) (c := z.2.2) (by have := hc 0 _ rfl; simpa using this) (hc 1 _ rfl) (hc 2 _ rfl) (hc 3 _ rfl) ok
        · rw [Nat.zero_add, hW.cell HG.out hgz]
          exact hR'.2.2 j u hu
      | cons z rs =>
        simp only [List.length_cons] at hk
        have hlt : dn.length < l.len := by omega
        have hzx : z.1 ∈ l.toL := by rw [← hM.out]; simp
        obtain ⟨x, ps, cs⟩ := z
        have hgz := hR.out.1
        have c3 : wr.cell? ⟨g, dn.length * 4 + 3, none⟩ = some (.slice ps x.args.len cs) := hR.out.2.2 _ _ (encs_get exC_len dn (x, ps, cs) rs (i := 3) rfl)
        have okz := hO.out (x, ps, cs) (by simp)
        obtain ⟨hz1, hz2⟩ := HXs.out x hzx
        have HCx := Lib.hid (IH.out x.args hz1 hz2 ps cs N wr (Nat.le_trans hN hB.out.size) (okz.1.later (hB.out.mono hN) (Nat.le_refl _)))
        go_wp2_with fail
        refine HCx.out.mono ?_
        rintro e w2 ⟨⟨q', d', rfl, hf⟩, hB2⟩
        have hR2 := hR.out.later hB2
        have e3 : w2.cell? ⟨g, dn.length * 4 + 3, none⟩ = some (.slice ps x.args.len cs) := hR2.2.2 _ _ (encs_get exC_len dn (x, ps, cs) rs (i := 3) rfl)
        have f3 : w2.frozen? ⟨g, dn.length * 4 + 3, none⟩ = false := hR2.2.1 _
        have hzz := hB2.size
        have hg2 := HG.out
        have HN : Hid ((dn ++ [(x, q', d')] ++ rs).map Prod.fst = l.toL ∧ RowG (w2.setCell ⟨g, dn.length * 4 + 3, none⟩ (.slice q' x.args.len d')) g (encs exC (dn ++ [(x, q', d')] ++ rs)) ∧
            (∀ z ∈ dn ++ [(x, q', d')], Fresh (g + 1) (w2.setCell ⟨g, dn.length * 4 + 3, none⟩ (.slice q' x.args.len d')).heap.size (w2.setCell ⟨g, dn.length * 4 + 3, none⟩ (.slice q' x.args.len d')) (fun W B => z.1.Ok W B z.2.1)) ∧
            Below w.heap.size w (w2.setCell ⟨g, dn.length * 4 + 3, none⟩ (.slice q' x.args.len d'))) := Lib.hid (by
          have hsz : (w2.setCell ⟨g, dn.length * 4 + 3, none⟩ (.slice q' x.args.len d')).heap.size = w2.heap.size := by simp [World.setCell]
          have hag : Agr (g + 1) w2.heap.size w2 (w2.setCell ⟨g, dn.length * 4 + 3, none⟩ (.slice q' x.args.len d')) := Agr.set (by omega) (Nat.le_refl _) _ _
          refine ⟨by rw [← hM.out]; simp, ?_, fun z hz => ?_, (hB.out.trans (hB2.mono hB.out.size)).setCell (p := ⟨g, dn.length * 4 + 3, none⟩) hg2 _⟩
          · have := hR2.set (i := dn.length * 4 + 3) (v := .slice q' x.args.len d') (by rw [encs_len exC_len, List.length_append, List.length_cons]; omega)
            rw [encs_set exC_len dn (x, ps, cs) (x, q', d') rs (by omega) rfl] at this
            rw [List.append_assoc]; exact this
          · rw [hsz]
            rcases List.mem_append.1 hz with hz | hz
            · exact (hF.out z hz).grow (Nat.le_refl _) hzz ((Agr.of_below hB2 (Nat.le_refl _)).trans (hag.mono (Nat.le_refl _) hzz)) (fun W _ h => ⟨h.1.up hzz, h.2⟩)
            · rw [List.mem_singleton] at hz
              subst hz
              exact Fresh.grow (Pp := fun W B => x.Ok W B q') (fun W hW => ⟨hf W hW, okz.2⟩) (by omega) (Nat.le_refl _) (hag.mono (by omega) (Nat.le_refl _)) (fun W _ h => h))
        have HO2 : Hid (∀ z ∈ rs, z.1.Ok w N z.2.1) := Lib.hid (fun z hz => hO.out z (List.mem_cons_of_mem _ hz))
        have hlt2 : dn.length < l.len := hlt
        clear hf hB2 hR2 hR hF hO hM c3
        go_wp2_with fail
        go_roundw
        case rel => exact ⟨dn ++ [(x, q', d')], rs, by simp, by simp; omega, Lib.hid HN.out.1, Lib.hid HN.out.2.1, Lib.hid HN.out.2.2.1, HO2, Lib.hid HN.out.2.2.2⟩
        case measure => simp [intOf]; omega
theorem cpE_all : ∀ n, CpE n
  | 0 => fun _ h => by omega
  | n + 1 => cpE_step n (cpE_all n)
end Go.Proofs.YtlhbledakddbbaaGreatDoor
/- Statements copied: the program's copyStmts. -/
namespace Go.Proofs.YtlhbledakddbbaaGreatDoor
open Go.RowKit

def stC (x : St) (s : StP) : List Value :=
  [.int .i64 x.kind, .string (str x.name), .slice s.pn x.names.length s.cn, .int .i64 x.e.op, .int .u64 (x.e.word : Int), .string (str x.e.name), .slice s.pe x.e.args.len s.ce, .int .i64 x.a.op, .int .u64 (x.a.word : Int), .string (str x.a.name), .slice s.pa x.a.args.len s.ca,
    .slice s.pg x.args.len s.cg, .int .u64 (x.low : Int), .int .u64 (x.high : Int), .slice s.pb x.body.len s.cb, .slice s.pl x.els.len s.cl]
theorem stC_len (x : St) (s : StP) : (stC x s).length = 16 := rfl
theorem stC_cells (x : St) (s : StP) : stC x s = (x.cells s).toList := rfl
theorem one_stC (zs : List (St × StP)) : ∀ u ∈ encs stC zs, u.oneCell' = true := by
  intro u hu
  obtain ⟨z, _, hz⟩ := List.mem_flatMap.1 hu
  simp only [stC, List.mem_cons, List.not_mem_nil, or_false] at hz
  rcases hz with rfl | rfl | rfl | rfl | rfl | rfl | rfl | rfl | rfl | rfl | rfl | rfl | rfl | rfl | rfl | rfl <;> rfl
theorem Sts.ofRow {w : World} {N b : Nat} : ∀ (l : Sts) (o : Nat), Row (St.At w N) 16 l.toL b o → l.At w N b o
  | .nil, _, _ => trivial
  | .cons _x r, o, h => ⟨h.1, Sts.ofRow r (o + 16) h.2⟩
/-- a clone of statements -/
theorem cloneS_any (l : Sts) (p : Option Addr) (c N : Nat) (w : World) (hn : l.len ≤ 1000000) (h : l.In w N p) :
    Calls Tryz.prog 111 #[.slice p l.len c] w fun e w' => (∃ q d zs, e = .returned (.slice q l.len d) ∧ zs.map Prod.fst = l.toL ∧ (∀ z ∈ zs, z.1.Ok w N z.2) ∧ ((q = none ∧ l.len = 0) ∨ ∃ g, q = some ⟨g, 0, none⟩ ∧ w.heap.size ≤ g ∧ RowG w' g (encs stC zs))) ∧ Below w.heap.size w w' := by
  cases p with
  | none =>
    have h0 : l.len = 0 := by
      rcases h.2 with h0 | ⟨b, o, hq, _⟩
      · exact h0
      · cases hq
    rw [h0]
    refine (clone_st16_nil w c).mono ?_
    rintro e w' ⟨rfl, rfl⟩
    refine ⟨⟨none, 0, [], rfl, ?_, (fun _ hz => by cases hz), .inl ⟨rfl, rfl⟩⟩, Below.refl _ _⟩
    have := Sts.toL_len l
    rw [h0] at this
    exact (List.length_eq_zero_iff.1 this.symm).symm
  | some ad =>
    obtain ⟨zs, hm, hok, hsrc⟩ : ∃ zs : List (St × StP), zs.map Prod.fst = l.toL ∧ (∀ z ∈ zs, z.1.Ok w N z.2) ∧ Src w 16 (some ad) l.len c (encs stC zs) := by
      by_cases h0 : l.len = 0
      · have := Sts.toL_len l
        rw [h0] at this
        rw [h0, List.length_eq_zero_iff.1 this.symm]
        exact ⟨[], rfl, (fun _ hz => by cases hz), Src.nil⟩
      · rcases h.2 with h1 | ⟨b, o, hq, hb, ha⟩
        · exact absurd h1 h0
        · cases hq
          obtain ⟨zs, hm, hc, hok⟩ := Row.openZ (enc := stC) (OK := fun x s => x.Ok w N s) stC_len (fun x o hx => by
            obtain ⟨s, hc, ok⟩ := hx.open
            exact ⟨s, fun j v hv => hc j v (by rw [stC_cells, Array.getElem?_toList] at hv; exact hv), ok⟩) l.toL o (Sts.row l o ha)
          refine ⟨zs, hm, hok, Src.of ?_ hc⟩
          rw [encs_len stC_len, Sts.toL_len, ← hm, List.length_map]
    refine (clone_st16_some ad l.len c _ w hsrc (one_stC zs) hn).mono ?_
    rintro e w' ⟨⟨v, rfl, q, d, rfl, hd, hq⟩, hB⟩
    exact ⟨⟨q, d, zs, rfl, hm, hok, hq⟩, hB⟩
theorem map_str (ns : List (List UInt8)) : ∀ u ∈ ns.map (fun x => Value.string (str x)), u.oneCell' = true := by
  intro u hu
  obtain ⟨x, _, rfl⟩ := List.mem_map.1 hu
  rfl
theorem Row.ofGet1 {α : Type} {A : α → Nat → Nat → Prop} {b : Nat} : ∀ (l : List α) (o : Nat), (∀ j x, l[j]? = some x → A x b (o + j)) → Row A 1 l b o
  | [], _, _ => trivial
  | x :: r, o, h => ⟨by simpa using h 0 x rfl, Row.ofGet1 r (o + 1) fun j y hy => by have := h (j + 1) y (by simpa using hy); rw [show o + 1 + j = o + (j + 1) by omega]; exact this⟩
/-- a clone of names -/
theorem cloneN_any (ns : List (List UInt8)) (p : Option Addr) (c N : Nat) (w : World) (hn : ns.length ≤ 1000000) (h : RowIn N (StrAt w) 1 ns p) :
    Calls Tryz.prog 112 #[.slice p ns.length c] w fun e w' => (∃ q d, e = .returned (.slice q ns.length d) ∧ Fresh w.heap.size w'.heap.size w' (fun W B => ns.length ≤ d ∧ RowIn B (StrAt W) 1 ns q)) ∧ Below w.heap.size w w' := by
  cases p with
  | none =>
    have h0 : ns.length = 0 := by
      rcases h.2 with h0 | ⟨b, o, hq, _⟩
      · exact h0
      · cases hq
    have hs : ns = [] := List.length_eq_zero_iff.1 h0
    subst hs
    refine (clone_str1_nil w c).mono ?_
    rintro e w' ⟨rfl, rfl⟩
    exact ⟨⟨none, 0, rfl, fun W _ => ⟨Nat.le_refl _, Nat.zero_le _, .inl rfl⟩⟩, Below.refl _ _⟩
  | some ad =>
    have hsrc : Src w 1 (some ad) ns.length c (ns.map (fun x => Value.string (str x))) := by
      by_cases h0 : ns.length = 0
      · have hs : ns = [] := List.length_eq_zero_iff.1 h0
        subst hs
        exact Src.nil
      · rcases h.2 with h1 | ⟨b, o, hq, hb, ha⟩
        · exact absurd h1 h0
        · cases hq
          refine Src.of (by simp) fun j u hu => ?_
          rw [List.getElem?_map] at hu
          obtain ⟨x, hx, rfl⟩ := Option.map_eq_some_iff.1 hu
          have := ha.get hx
          rw [Nat.mul_one] at this
          exact this
    refine (clone_str1_some ad ns.length c _ w hsrc (map_str ns) hn).mono ?_
    rintro e w' ⟨⟨v, rfl, q, d, rfl, hd, hq⟩, hB⟩
    refine ⟨⟨q, d, rfl, fun W hW => ⟨hd, h.1, ?_⟩⟩, hB⟩
    rcases hq with ⟨_, h0⟩ | ⟨g, rfl, hg, hr⟩
    · exact .inl h0
    · refine .inr ⟨g, 0, rfl, hr.1, Row.ofGet1 ns 0 fun j x hx => ?_⟩
      show W.cell? _ = _
      rw [hW.cell hg hr.1, Nat.zero_add]
      exact hr.2.2 j _ (by rw [List.getElem?_map, hx]; rfl)
end Go.Proofs.YtlhbledakddbbaaGreatDoor
