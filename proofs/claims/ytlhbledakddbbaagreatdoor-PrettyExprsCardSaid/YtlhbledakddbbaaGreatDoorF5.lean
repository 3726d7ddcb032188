/- The law on expressions: its walk. -/
import Derived.Test.YtlhbledakddbbaaGreatDoorF4
import Derived.Test.YtlhbledakddbbaaGreatDoorC8
import Derived.Lib.Join
import Derived.Lib.ItoaLen
import Derived.WalkMore
import Derived.Deep.CutBlock
import Derived.Deep.CutRange
import Derived.Deep.RegionHeld
import Derived.Deep.RegionHeld3
namespace Go.Proofs.YtlhbledakddbbaaGreatDoor
open Go.RowKit

mutual
def Ex.fine : Ex → Prop
  | .mk _ x _ a => x < 18446744073709551616 ∧ a.fine
def Exs.fine : Exs → Prop
  | .nil => True
  | .cons x r => x.fine ∧ r.fine
end
mutual
theorem Ex.At.fine {w : World} {N : Nat} : ∀ (x : Ex) (b o : Nat), x.At w N b o → x.fine
  | .mk op x nm as', b, o, h => by
    obtain ⟨⟨h0, h1, h2, h3⟩, ⟨p, c, h4, s4⟩⟩ := h
    refine ⟨h3, ?_⟩
    rcases s4.2 with h0 | ⟨b', o', _, _, ha⟩
    · cases as' with
      | nil => trivial
      | cons => simp [Exs.len] at h0
    · exact Exs.At.fine as' b' o' ha
theorem Exs.At.fine {w : World} {N : Nat} : ∀ (l : Exs) (b o : Nat), l.At w N b o → l.fine
  | .nil, _, _, _ => trivial
  | .cons x r, b, o, h => ⟨Ex.At.fine x b o h.1, Exs.At.fine r b (o + 4) h.2⟩
end
theorem Ex.Ok.fine {w : World} {N : Nat} {x : Ex} {p : Option Addr} (h : x.Ok w N p) : x.fine := by
  obtain ⟨op, wd, nm, ar⟩ := x
  refine ⟨h.2, ?_⟩
  rcases h.1.2 with h0 | ⟨b', o', _, _, ha⟩
  · cases ar with
    | nil => trivial
    | cons => simp [Ex.args, Exs.len] at h0
  · exact Exs.At.fine ar b' o' ha
mutual
theorem Ex.size_total : ∀ x : Ex, x.size + 1 ≤ 2 * x.total
  | .mk _ _ nm a => by have := Exs.size_total a; simp only [Ex.size, Ex.total]; omega
theorem Exs.size_total : ∀ a : Exs, a.size ≤ 2 * a.total
  | .nil => Nat.le_refl _
  | .cons x r => by have := Ex.size_total x; have := Exs.size_total r; simp only [Exs.size, Exs.total]; omega
end
def sumL : List (List UInt8) → Nat
  | [] => 0
  | x :: r => x.length + 2 + sumL r
theorem joinL_len (ts : List (List UInt8)) : (Lib.join ts [44, 32]).length ≤ sumL ts := by
  have tail : ∀ r : List (List UInt8), (Lib.joinTail [44, 32] r).length ≤ sumL r := fun r => by
    induction r with
    | nil => exact Nat.le_refl _
    | cons x r ih => simp only [Lib.joinTail, List.map_cons, List.flatten_cons, List.length_append, List.length_cons, List.length_nil, sumL] at ih ⊢; omega
  cases ts with
  | nil => exact Nat.le_refl _
  | cons x r =>
    have := tail r
    rw [Lib.join_cons, List.length_append, sumL]; omega
theorem dec_len {x : Nat} (h : x < 18446744073709551616) : (Lib.decDigits x).length ≤ 20 := by
  rw [Lib.decDigits_length]
  exact Lib.nDigits_le20 x h
theorem sign_len (op : Int) : (signOf op).length ≤ 4 := by
  by_cases h : op < 6 ∨ 20 < op
  · rw [(no_sign h).2]; exact Nat.zero_le _
  · rcases fifteen (o := op) (by omega) (by omega) with rfl | rfl | rfl | rfl | rfl | rfl | rfl | rfl | rfl | rfl | rfl | rfl | rfl | rfl | rfl <;> decide
theorem text_len {op : Int} {x : Nat} {nm : List UInt8} {ts : List (List UInt8)} (h : x < 18446744073709551616) : (textOf op x nm ts).length ≤ 28 + nm.length + sumL ts := by
  have h0 : (ts.getD 0 []).length + (ts.getD 1 []).length ≤ sumL ts := by
    cases ts with
    | nil => exact Nat.le_refl _
    | cons a r =>
      cases r with
      | nil => simp [sumL]
      | cons b r => simp [sumL]; omega
  have := dec_len h
  have := sign_len op
  have := joinL_len ts
  unfold textOf
  repeat' split
  all_goals first | omega | (simp only [List.length_append, List.length_cons, List.length_nil]; omega)
mutual
theorem Ex.text_le : ∀ x : Ex, x.fine → x.text.length + 2 ≤ 30 * x.total
  | .mk op x nm a, h => by
    have h1 := Exs.text_le a h.2
    have h2 := text_len (op := op) (nm := nm) (ts := a.texts) h.1
    simp only [Ex.text, Ex.total]; omega
theorem Exs.text_le : ∀ a : Exs, a.fine → sumL a.texts ≤ 30 * a.total
  | .nil, _ => Nat.le_refl _
  | .cons x r, h => by
    have h1 := Ex.text_le x h.1
    have h2 := Exs.text_le r h.2
    simp only [Exs.texts, sumL, Exs.total]; omega
end
set_option maxHeartbeats 1600000 in
theorem rMayE_any (x : Ex) (hx6 : x.size ≤ 1000000) (p : Option Addr) (c N : Nat) (w : World) (h : x.Ok w N p) (hN : N ≤ w.heap.size) :
    Calls Tryz.prog 13 #[x.val p c] w fun e w' => e = .returned (.bool (decide (x.depth ≤ 64) && x.may)) ∧ Below w.heap.size w w' := by
  obtain ⟨W0, hW0⟩ : ∃ W0, w.alloc (.cells #[.int .i64 x.op, .int .u64 (x.word : Int), .string (str x.name), .slice p x.args.len c] 26) = W0 := ⟨_, rfl⟩
  have HW0 := Lib.hid (show Below w.heap.size w W0 by rw [← hW0]; exact (Below.refl _ _).alloc (Nat.le_refl _) _)
  have HX := Lib.hid (fun w1 hb => cells_later (w0 := W0) (w1 := w1) (b := w.heap.size) (A := #[.int .i64 x.op, .int .u64 (x.word : Int), .string (str x.name), .slice p x.args.len c]) (t := 26) (by rw [← hW0]; exact heap_alloc_new w _) hb)
  have x0 : W0.cell? ⟨w.heap.size, 0, none⟩ = some (.int .i64 x.op) := HX.out _ (Below.refl _ _) 0 _ rfl
  have x1 : W0.cell? ⟨w.heap.size, 1, none⟩ = some (.int .u64 (x.word : Int)) := HX.out _ (Below.refl _ _) 1 _ rfl
  have x2 : W0.cell? ⟨w.heap.size, 2, none⟩ = some (.string (str x.name)) := HX.out _ (Below.refl _ _) 2 _ rfl
  have x3 : W0.cell? ⟨w.heap.size, 3, none⟩ = some (.slice p x.args.len c) := HX.out _ (Below.refl _ _) 3 _ rfl
  have HRd := Lib.hid (fun (w1 : World) (hb : Below w.heap.size w w1) => rdepth_any x hx6 p c w1.heap.size w1 (h.later (hb.mono hN) (Nat.le_trans hN hb.size)) (Nat.le_refl _))
  have HRm := Lib.hid (fun (w1 : World) (hb : Below w.heap.size w w1) => rmayExpr_any x p c w1.heap.size w1 (h.later (hb.mono hN) (Nat.le_trans hN hb.size)) (Nat.le_refl _))
  have hdb := Ex.depth_le x
  unfold Ex.val at HRd HRm ⊢
  generalize x.may = m at HRm ⊢
  generalize x.depth = d at HRd hdb ⊢
  clear h hN
  by_cases hd : d ≤ 64
  · have HV := Lib.hid (show m = (decide (d ≤ 64) && m) by rw [decide_eq_true hd]; rfl)
    go_enter Tryz.func13, Tryz.ntmps13
    go_wp2_with fail
    refine (HRd.out _ HW0.out).mono ?_
    rintro e w1 ⟨rfl, hB⟩
    have HB1 := Lib.hid (HW0.out.trans (hB.mono HW0.out.size))
    have y0 : w1.cell? ⟨w.heap.size, 0, none⟩ = some (.int .i64 x.op) := HX.out _ hB 0 _ rfl
    have y1 : w1.cell? ⟨w.heap.size, 1, none⟩ = some (.int .u64 (x.word : Int)) := HX.out _ hB 1 _ rfl
    have y2 : w1.cell? ⟨w.heap.size, 2, none⟩ = some (.string (str x.name)) := HX.out _ hB 2 _ rfl
    have y3 : w1.cell? ⟨w.heap.size, 3, none⟩ = some (.slice p x.args.len c) := HX.out _ hB 3 _ rfl
    clear hB hW0 x0 x1 x2 x3
    go_wp2_with fail
    refine (HRm.out _ HB1.out).mono ?_
    rintro e w2 ⟨rfl, hB⟩
    have HB2 := Lib.hid (HB1.out.trans (hB.mono HB1.out.size))
    clear hB
    go_wp2_with fail
    go_ret
    exact ⟨ret_bool HV.out, HB2.out⟩
  · have HV := Lib.hid (show false = (decide (d ≤ 64) && m) by rw [decide_eq_false hd]; rfl)
    go_enter Tryz.func13, Tryz.ntmps13
    go_wp2_with fail
    refine (HRd.out _ HW0.out).mono ?_
    rintro e w1 ⟨rfl, hB⟩
    have HB1 := Lib.hid (HW0.out.trans (hB.mono HW0.out.size))
    clear hB hW0 x0 x1 x2 x3
    go_wp2_with fail
    go_ret
    exact ⟨by first | exact ret_bool HV.out | rfl, HB1.out⟩

set_option maxRecDepth 100000 in
set_option maxHeartbeats 12800000 in
theorem exprs_law (x : Ex) (p : Option Addr) (c : Nat) (w : World) (hG : Glob w) (h : x.Ok w w.heap.size p) :
    Calls Tryz.prog 3 #[x.val p c] w fun e w' => e = .returned (.bool true) ∧ Below w.heap.size w w' := by
  have hfine := h.fine
  have HK := Lib.hid (fun w' (hb : Below w.heap.size w w') => known_any w' (hG.later hb))
  obtain ⟨W0, hW0⟩ : ∃ W0, w.alloc (.cells #[.int .i64 x.op, .int .u64 (x.word : Int), .string (str x.name), .slice p x.args.len c] 26) = W0 := ⟨_, rfl⟩
  have HW0 := Lib.hid (show Below w.heap.size w W0 by rw [← hW0]; exact (Below.refl _ _).alloc (Nat.le_refl _) _)
  have HX := Lib.hid (fun w1 hb => cells_later (w0 := W0) (w1 := w1) (b := w.heap.size) (A := #[.int .i64 x.op, .int .u64 (x.word : Int), .string (str x.name), .slice p x.args.len c]) (t := 26) (by rw [← hW0]; exact heap_alloc_new w _) hb)
  have x0 : W0.cell? ⟨w.heap.size, 0, none⟩ = some (.int .i64 x.op) := HX.out _ (Below.refl _ _) 0 _ rfl
  have x1 : W0.cell? ⟨w.heap.size, 1, none⟩ = some (.int .u64 (x.word : Int)) := HX.out _ (Below.refl _ _) 1 _ rfl
  have x2 : W0.cell? ⟨w.heap.size, 2, none⟩ = some (.string (str x.name)) := HX.out _ (Below.refl _ _) 2 _ rfl
  have x3 : W0.cell? ⟨w.heap.size, 3, none⟩ = some (.slice p x.args.len c) := HX.out _ (Below.refl _ _) 3 _ rfl
  have HL := Lib.hid (fun (w1 : World) (hb : Below w.heap.size w w1) => longExpr_any x p c w.heap.size w1 (h.later hb (Nat.le_refl _)) hb.size)
  by_cases hlong : 5000 < x.total
  · rw [decide_eq_true hlong] at HL
    unfold Ex.val at HL ⊢
    clear h hG hfine hlong
    go_enter Tryz.func3, Tryz.ntmps3
    go_wp2_with fail
    refine (HL.out _ HW0.out).mono ?_
    rintro e w1 ⟨rfl, hB⟩
    have HD1 := Lib.hid hB
    clear hB hW0 x0 x1 x2 x3
    go_wp2_with fail
    refine (HK.out _ (HW0.out.trans (HD1.out.mono HW0.out.size))).mono ?_
    rintro z wz ⟨rfl, hB'⟩
    have HBz := Lib.hid ((HW0.out.trans (HD1.out.mono HW0.out.size)).trans (hB'.mono (HW0.out.trans (HD1.out.mono HW0.out.size)).size))
    clear hB'
    go_wp2_with fail
    go_ret
    exact ⟨rfl, HBz.out⟩
  · rw [decide_eq_false hlong] at HL
    have hsz := Ex.size_total x
    have hx6 : x.size ≤ 1000000 := by omega
    have htl := Ex.text_le x hfine
    have htl2 : x.text.length ≤ 1000000 := by omega
    have HE := Lib.hid (fun (w1 : World) (hb : Below w.heap.size w w1) => expr_any x p c w.heap.size w1 hx6 (h.later hb (Nat.le_refl _)) hb.size (hG.later hb) (fun _ => by omega))
    have HDe := Lib.hid (fun (w1 : World) (hb : Below w.heap.size w w1) => depth_any x hx6 p c w.heap.size w1 (h.later hb (Nat.le_refl _)) hb.size)
    have HRd := Lib.hid (fun (w1 : World) (hb : Below w.heap.size w w1) => rdepth_any x hx6 p c w.heap.size w1 (h.later hb (Nat.le_refl _)) hb.size)
    have HM := Lib.hid (fun (w1 : World) (hb : Below w.heap.size w w1) => rMayE_any x hx6 p c w.heap.size w1 (h.later hb (Nat.le_refl _)) hb.size)
    have HT := Lib.hid (fun (hm : x.may = true) (w1 : World) (hb : Below w.heap.size w w1) => rExpr_any x hm htl2 p c w.heap.size w1 (h.later hb (Nat.le_refl _)) hb.size (hG.later hb))
    have hdb := Ex.depth_le x
    have hxr : exprR x = (if 64 < x.depth ∨ x.may = false then [] else if 65536 < x.text.length then [] else x.text) := rfl
    have hxe : exprE x = (if 64 < x.depth ∨ x.may = false then 2 else if 65536 < x.text.length then 3 else 0) := rfl
    unfold Ex.val at HL HE HDe HRd HM HT ⊢
    generalize exprR x = er at HE hxr
    generalize exprE x = ee at HE hxe
    generalize x.may = m at HM HT hxr hxe
    generalize x.depth = dp at HDe HRd HM hdb hxr hxe
    generalize x.text = tx at HT htl2 hxr hxe
    clear h hG hfine hlong htl
    by_cases hmay : (decide (dp ≤ 64) && m) = true
    · have hm : m = true := by simp at hmay; exact hmay.2
      have hd : dp ≤ 64 := by simp at hmay; exact hmay.1
      rw [hmay] at HM
      subst hm
      rw [if_neg (by simp; omega)] at hxr hxe
      have HT2 := Lib.hid (HT.out rfl)
      by_cases hbig : 65536 < tx.length
      · rw [if_pos hbig] at hxr hxe
        subst hxr; subst hxe
        have hsz2 := size_str tx
        have hgt : 65536 < (str tx).size := by rw [hsz2]; exact hbig
        obtain ⟨TX, hTX⟩ : ∃ T, str tx = T := ⟨_, rfl⟩
        rw [hTX] at HT2 hgt
        have e0 : (str []).toList = [] := by rw [Lib.toList_data, str_data]
        clear hmay hTX hsz2 HT hbig
        go_enter Tryz.func3, Tryz.ntmps3
        go_wp2_with fail
        refine (HL.out _ HW0.out).mono ?_
        rintro z w1 ⟨rfl, hB⟩
        have HD1 := Lib.hid hB
        clear hB hW0 x0 x1 x2 x3
        have w1c0 : w1.cell? ⟨w.heap.size, 0, none⟩ = some (.int .i64 x.op) := HX.out _ HD1.out 0 _ rfl
        have w1c1 : w1.cell? ⟨w.heap.size, 1, none⟩ = some (.int .u64 (x.word : Int)) := HX.out _ HD1.out 1 _ rfl
        have w1c2 : w1.cell? ⟨w.heap.size, 2, none⟩ = some (.string (str x.name)) := HX.out _ HD1.out 2 _ rfl
        have w1c3 : w1.cell? ⟨w.heap.size, 3, none⟩ = some (.slice p x.args.len c) := HX.out _ HD1.out 3 _ rfl
        go_wp2_with fail
        refine (HE.out _ (HW0.out.trans (HD1.out.mono HW0.out.size))).mono ?_
        rintro z w2 ⟨rfl, hB⟩
        have HD2 := Lib.hid (HD1.out.trans (hB.mono HD1.out.size))
        clear hB w1c0 w1c1 w1c2 w1c3
        go_upto_region 4 with fail
        go_cut [18] from 14 to 17 (fun s18 wx => s18 = .bool false ∧ Hid (Below W0.heap.size W0 wx))
        case first =>
          have HS : Below W0.heap.size W0 w2.drew := HD2.out.drew
          refine wp_region_held_drew (S := fun W => Below W0.heap.size W0 W ∧ W.cell? ⟨w.heap.size, 0, none⟩ = some (.int .i64 x.op) ∧ W.cell? ⟨w.heap.size, 1, none⟩ = some (.int .u64 (x.word : Int)) ∧ W.cell? ⟨w.heap.size, 2, none⟩ = some (.string (str x.name)) ∧ W.cell? ⟨w.heap.size, 3, none⟩ = some (.slice p x.args.len c)) (by kernel_rfl) ?_ (fun hHeld => ?_)
          · exact ⟨HS, HX.out _ HS 0 _ rfl, HX.out _ HS 1 _ rfl, HX.out _ HS 2 _ rfl, HX.out _ HS 3 _ rfl⟩
          refine wpAnyH_take (i := 0) (oi := { dst := Option.some 14, op := Go.Op.load 26 (Go.Operand.tmp 1), type := 26, pos := "law.go:41", after := #[], guard := Option.none }) (v := ?_) rfl (by kernel_rfl) (by kernel_rfl) (by kernel_rfl) (fun _ _ _ h => h) (Or.inl ⟨by rfl, ?_⟩) (by assumption) ?_
          rotate_left
          · (intro w hSw; (try dsimp only at hSw); go_simp; try with_reducible rfl)
          try simp only [Act.put, List.setIfInBounds_toArray, List.set_cons_zero, List.set_cons_succ]
          refine wpAnyH_take (i := 2) (oi := { dst := Option.some 16, op := Go.Op.load 26 (Go.Operand.tmp 1), type := 26, pos := "law.go:41", after := #[], guard := Option.none }) (v := ?_) rfl (by kernel_rfl) (by kernel_rfl) (by kernel_rfl) (fun _ _ _ h => h) (Or.inl ⟨by rfl, ?_⟩) (by assumption) ?_
          rotate_left
          · (intro w hSw; (try dsimp only at hSw); go_simp; try with_reducible rfl)
          try simp only [Act.put, List.setIfInBounds_toArray, List.set_cons_zero, List.set_cons_succ]
          refine wpAnyH_ready (rs := [1]) (by kernel_rfl) (by simp) ?_
          refine AllReadyH.cons (o := { dst := Option.some 15, op := Go.Op.call { callee := Go.Callee.value (Go.Operand.func 11), args := #[Go.Operand.tmp 14], argTypes := #[26] }, type := 3, pos := "law.go:41", after := #[{ on := 0, ground := Go.Ground.data }], guard := Option.none }) rfl (fun K hK => ?_) AllReadyH.nil
          go_simp
          refine (HDe.out _ (HW0.out.trans (HS.mono HW0.out.size))).mono ?_
          rintro z wa ⟨rfl, hB'⟩
          replace HS := HS.trans (hB'.mono HS.size)
          clear hB'
          refine hK.out _ _ ?_ (fun hHeld => ?_)
          · exact ⟨HS, HX.out _ HS 0 _ rfl, HX.out _ HS 1 _ rfl, HX.out _ HS 2 _ rfl, HX.out _ HS 3 _ rfl⟩
          clear hK K
          try simp only [Act.put, List.setIfInBounds_toArray, List.set_cons_zero, List.set_cons_succ]
          refine wpAnyH_ready (rs := [3]) (by kernel_rfl) (by simp) ?_
          refine AllReadyH.cons (o := { dst := Option.some 17, op := Go.Op.call { callee := Go.Callee.value (Go.Operand.func 12), args := #[Go.Operand.tmp 16], argTypes := #[26] }, type := 3, pos := "law.go:41", after := #[{ on := 2, ground := Go.Ground.data }, { on := 1, ground := Go.Ground.chain }], guard := Option.none }) rfl (fun K hK => ?_) AllReadyH.nil
          go_simp
          refine (HRd.out _ (HW0.out.trans (HS.mono HW0.out.size))).mono ?_
          rintro z wa ⟨rfl, hB'⟩
          replace HS := HS.trans (hB'.mono HS.size)
          clear hB'
          refine hK.out _ _ ?_ (fun hHeld => ?_)
          · exact ⟨HS, HX.out _ HS 0 _ rfl, HX.out _ HS 1 _ rfl, HX.out _ HS 2 _ rfl, HX.out _ HS 3 _ rfl⟩
          clear hK K
          try simp only [Act.put, List.setIfInBounds_toArray, List.set_cons_zero, List.set_cons_succ]
          refine wpAnyH_take (i := 4) (oi := { dst := Option.some 18, op := Go.Op.binOp Go.BinOp.neq 3 (Go.Operand.tmp 15) (Go.Operand.tmp 17) 3, type := 4, pos := "law.go:41", after := #[{ on := 1, ground := Go.Ground.data }, { on := 3, ground := Go.Ground.data }], guard := Option.none }) (v := .bool false) rfl (by kernel_rfl) (by kernel_rfl) (by kernel_rfl) (fun _ _ _ h => h) (Or.inl ⟨by rfl, ?_⟩) (by assumption) ?_
          · (intro w hSw; (try dsimp only at hSw); go_simp)
          try simp only [Act.put, List.setIfInBounds_toArray, List.set_cons_zero, List.set_cons_succ]
          refine wpAnyH_done (by kernel_rfl) ?_ _
          go_wp2_with fail
          go_meet
          exact ⟨rfl, Lib.hid HS⟩
        case rest =>
          obtain ⟨rfl, HD3⟩ := hcut
          have wcc0 : wc.cell? ⟨w.heap.size, 0, none⟩ = some (.int .i64 x.op) := HX.out _ HD3.out 0 _ rfl
          have wcc1 : wc.cell? ⟨w.heap.size, 1, none⟩ = some (.int .u64 (x.word : Int)) := HX.out _ HD3.out 1 _ rfl
          have wcc2 : wc.cell? ⟨w.heap.size, 2, none⟩ = some (.string (str x.name)) := HX.out _ HD3.out 2 _ rfl
          have wcc3 : wc.cell? ⟨w.heap.size, 3, none⟩ = some (.slice p x.args.len c) := HX.out _ HD3.out 3 _ rfl
          go_wp2_with fail
          refine (HM.out _ (HW0.out.trans (HD3.out.mono HW0.out.size))).mono ?_
          rintro z w4 ⟨rfl, hB⟩
          have HD4 := Lib.hid (HD3.out.trans (hB.mono HD3.out.size))
          clear hB wcc0 wcc1 wcc2 wcc3
          have w4c0 : w4.cell? ⟨w.heap.size, 0, none⟩ = some (.int .i64 x.op) := HX.out _ HD4.out 0 _ rfl
          have w4c1 : w4.cell? ⟨w.heap.size, 1, none⟩ = some (.int .u64 (x.word : Int)) := HX.out _ HD4.out 1 _ rfl
          have w4c2 : w4.cell? ⟨w.heap.size, 2, none⟩ = some (.string (str x.name)) := HX.out _ HD4.out 2 _ rfl
          have w4c3 : w4.cell? ⟨w.heap.size, 3, none⟩ = some (.slice p x.args.len c) := HX.out _ HD4.out 3 _ rfl
          go_wp2_with fail
          refine (HT2.out _ (HW0.out.trans (HD4.out.mono HW0.out.size))).mono ?_
          rintro z w5 ⟨rfl, hB⟩
          have HD5 := Lib.hid (HD4.out.trans (hB.mono HD4.out.size))
          clear hB
          go_wp2_with (go_at_call 14; refine (num_any _ _).mono ?_; rintro e w' ⟨rfl, rfl⟩)
          refine (HK.out _ (HW0.out.trans (HD5.out.mono HW0.out.size))).mono ?_
          rintro z wz ⟨rfl, hB'⟩
          have HBz := Lib.hid ((HW0.out.trans (HD5.out.mono HW0.out.size)).trans (hB'.mono (HW0.out.trans (HD5.out.mono HW0.out.size)).size))
          clear hB'
          go_wp2_with fail
          go_ret
          exact ⟨rfl, HBz.out⟩
      · rw [if_neg hbig] at hxr hxe
        subst hxr; subst hxe
        have hsz2 := size_str er
        have hgt : ¬ 65536 < (str er).size := by rw [hsz2]; exact hbig
        have e1 := str_beq_eq er
        obtain ⟨TX, hTX⟩ : ∃ T, str er = T := ⟨_, rfl⟩
        rw [hTX] at HT2 HE hgt e1
        clear hmay hTX hsz2 HT hbig
        go_enter Tryz.func3, Tryz.ntmps3
        go_wp2_with fail
        refine (HL.out _ HW0.out).mono ?_
        rintro z w1 ⟨rfl, hB⟩
        have HD1 := Lib.hid hB
        clear hB hW0 x0 x1 x2 x3
        have w1c0 : w1.cell? ⟨w.heap.size, 0, none⟩ = some (.int .i64 x.op) := HX.out _ HD1.out 0 _ rfl
        have w1c1 : w1.cell? ⟨w.heap.size, 1, none⟩ = some (.int .u64 (x.word : Int)) := HX.out _ HD1.out 1 _ rfl
        have w1c2 : w1.cell? ⟨w.heap.size, 2, none⟩ = some (.string (str x.name)) := HX.out _ HD1.out 2 _ rfl
        have w1c3 : w1.cell? ⟨w.heap.size, 3, none⟩ = some (.slice p x.args.len c) := HX.out _ HD1.out 3 _ rfl
        go_wp2_with fail
        refine (HE.out _ (HW0.out.trans (HD1.out.mono HW0.out.size))).mono ?_
        rintro z w2 ⟨rfl, hB⟩
        have HD2 := Lib.hid (HD1.out.trans (hB.mono HD1.out.size))
        clear hB w1c0 w1c1 w1c2 w1c3
        go_upto_region 4 with fail
        go_cut [18] from 14 to 17 (fun s18 wx => s18 = .bool false ∧ Hid (Below W0.heap.size W0 wx))
        case first =>
          have HS : Below W0.heap.size W0 w2.drew := HD2.out.drew
          refine wp_region_held_drew (S := fun W => Below W0.heap.size W0 W ∧ W.cell? ⟨w.heap.size, 0, none⟩ = some (.int .i64 x.op) ∧ W.cell? ⟨w.heap.size, 1, none⟩ = some (.int .u64 (x.word : Int)) ∧ W.cell? ⟨w.heap.size, 2, none⟩ = some (.string (str x.name)) ∧ W.cell? ⟨w.heap.size, 3, none⟩ = some (.slice p x.args.len c)) (by kernel_rfl) ?_ (fun hHeld => ?_)
          · exact ⟨HS, HX.out _ HS 0 _ rfl, HX.out _ HS 1 _ rfl, HX.out _ HS 2 _ rfl, HX.out _ HS 3 _ rfl⟩
          refine wpAnyH_take (i := 0) (oi := { dst := Option.some 14, op := Go.Op.load 26 (Go.Operand.tmp 1), type := 26, pos := "law.go:41", after := #[], guard := Option.none }) (v := ?_) rfl (by kernel_rfl) (by kernel_rfl) (by kernel_rfl) (fun _ _ _ h => h) (Or.inl ⟨by rfl, ?_⟩) (by assumption) ?_
          rotate_left
          · (intro w hSw; (try dsimp only at hSw); go_simp; try with_reducible rfl)
          try simp only [Act.put, List.setIfInBounds_toArray, List.set_cons_zero, List.set_cons_succ]
          refine wpAnyH_take (i := 2) (oi := { dst := Option.some 16, op := Go.Op.load 26 (Go.Operand.tmp 1), type := 26, pos := "law.go:41", after := #[], guard := Option.none }) (v := ?_) rfl (by kernel_rfl) (by kernel_rfl) (by kernel_rfl) (fun _ _ _ h => h) (Or.inl ⟨by rfl, ?_⟩) (by assumption) ?_
          rotate_left
          · (intro w hSw; (try dsimp only at hSw); go_simp; try with_reducible rfl)
          try simp only [Act.put, List.setIfInBounds_toArray, List.set_cons_zero, List.set_cons_succ]
          refine wpAnyH_ready (rs := [1]) (by kernel_rfl) (by simp) ?_
          refine AllReadyH.cons (o := { dst := Option.some 15, op := Go.Op.call { callee := Go.Callee.value (Go.Operand.func 11), args := #[Go.Operand.tmp 14], argTypes := #[26] }, type := 3, pos := "law.go:41", after := #[{ on := 0, ground := Go.Ground.data }], guard := Option.none }) rfl (fun K hK => ?_) AllReadyH.nil
          go_simp
          refine (HDe.out _ (HW0.out.trans (HS.mono HW0.out.size))).mono ?_
          rintro z wa ⟨rfl, hB'⟩
          replace HS := HS.trans (hB'.mono HS.size)
          clear hB'
          refine hK.out _ _ ?_ (fun hHeld => ?_)
          · exact ⟨HS, HX.out _ HS 0 _ rfl, HX.out _ HS 1 _ rfl, HX.out _ HS 2 _ rfl, HX.out _ HS 3 _ rfl⟩
          clear hK K
          try simp only [Act.put, List.setIfInBounds_toArray, List.set_cons_zero, List.set_cons_succ]
          refine wpAnyH_ready (rs := [3]) (by kernel_rfl) (by simp) ?_
          refine AllReadyH.cons (o := { dst := Option.some 17, op := Go.Op.call { callee := Go.Callee.value (Go.Operand.func 12), args := #[Go.Operand.tmp 16], argTypes := #[26] }, type := 3, pos := "law.go:41", after := #[{ on := 2, ground := Go.Ground.data }, { on := 1, ground := Go.Ground.chain }], guard := Option.none }) rfl (fun K hK => ?_) AllReadyH.nil
          go_simp
          refine (HRd.out _ (HW0.out.trans (HS.mono HW0.out.size))).mono ?_
          rintro z wa ⟨rfl, hB'⟩
          replace HS := HS.trans (hB'.mono HS.size)
          clear hB'
          refine hK.out _ _ ?_ (fun hHeld => ?_)
          · exact ⟨HS, HX.out _ HS 0 _ rfl, HX.out _ HS 1 _ rfl, HX.out _ HS 2 _ rfl, HX.out _ HS 3 _ rfl⟩
          clear hK K
          try simp only [Act.put, List.setIfInBounds_toArray, List.set_cons_zero, List.set_cons_succ]
          refine wpAnyH_take (i := 4) (oi := { dst := Option.some 18, op := Go.Op.binOp Go.BinOp.neq 3 (Go.Operand.tmp 15) (Go.Operand.tmp 17) 3, type := 4, pos := "law.go:41", after := #[{ on := 1, ground := Go.Ground.data }, { on := 3, ground := Go.Ground.data }], guard := Option.none }) (v := .bool false) rfl (by kernel_rfl) (by kernel_rfl) (by kernel_rfl) (fun _ _ _ h => h) (Or.inl ⟨by rfl, ?_⟩) (by assumption) ?_
          · (intro w hSw; (try dsimp only at hSw); go_simp)
          try simp only [Act.put, List.setIfInBounds_toArray, List.set_cons_zero, List.set_cons_succ]
          refine wpAnyH_done (by kernel_rfl) ?_ _
          go_wp2_with fail
          go_meet
          exact ⟨rfl, Lib.hid HS⟩
        case rest =>
          obtain ⟨rfl, HD3⟩ := hcut
          have wcc0 : wc.cell? ⟨w.heap.size, 0, none⟩ = some (.int .i64 x.op) := HX.out _ HD3.out 0 _ rfl
          have wcc1 : wc.cell? ⟨w.heap.size, 1, none⟩ = some (.int .u64 (x.word : Int)) := HX.out _ HD3.out 1 _ rfl
          have wcc2 : wc.cell? ⟨w.heap.size, 2, none⟩ = some (.string (str x.name)) := HX.out _ HD3.out 2 _ rfl
          have wcc3 : wc.cell? ⟨w.heap.size, 3, none⟩ = some (.slice p x.args.len c) := HX.out _ HD3.out 3 _ rfl
          go_wp2_with fail
          refine (HM.out _ (HW0.out.trans (HD3.out.mono HW0.out.size))).mono ?_
          rintro z w4 ⟨rfl, hB⟩
          have HD4 := Lib.hid (HD3.out.trans (hB.mono HD3.out.size))
          clear hB wcc0 wcc1 wcc2 wcc3
          have w4c0 : w4.cell? ⟨w.heap.size, 0, none⟩ = some (.int .i64 x.op) := HX.out _ HD4.out 0 _ rfl
          have w4c1 : w4.cell? ⟨w.heap.size, 1, none⟩ = some (.int .u64 (x.word : Int)) := HX.out _ HD4.out 1 _ rfl
          have w4c2 : w4.cell? ⟨w.heap.size, 2, none⟩ = some (.string (str x.name)) := HX.out _ HD4.out 2 _ rfl
          have w4c3 : w4.cell? ⟨w.heap.size, 3, none⟩ = some (.slice p x.args.len c) := HX.out _ HD4.out 3 _ rfl
          go_wp2_with fail
          refine (HT2.out _ (HW0.out.trans (HD4.out.mono HW0.out.size))).mono ?_
          rintro z w5 ⟨rfl, hB⟩
          have HD5 := Lib.hid (HD4.out.trans (hB.mono HD4.out.size))
          clear hB
          go_wp2_with (go_at_call 14; refine (num_any _ _).mono ?_; rintro e w' ⟨rfl, rfl⟩)
          refine (HK.out _ (HW0.out.trans (HD5.out.mono HW0.out.size))).mono ?_
          rintro z wz ⟨rfl, hB'⟩
          have HBz := Lib.hid ((HW0.out.trans (HD5.out.mono HW0.out.size)).trans (hB'.mono (HW0.out.trans (HD5.out.mono HW0.out.size)).size))
          clear hB'
          go_wp2_with fail
          go_ret
          exact ⟨rfl, HBz.out⟩
    · have hmf : (decide (dp ≤ 64) && m) = false := by simpa using hmay
      rw [hmf] at HM
      rw [if_pos (by by_cases h1 : dp ≤ 64 <;> simp [h1] at hmf; exact .inr hmf; exact .inl (by omega))] at hxr hxe
      subst hxr; subst hxe
      have e0 : (str []).toList = [] := by rw [Lib.toList_data, str_data]
      clear hmay hmf HT
      go_enter Tryz.func3, Tryz.ntmps3
      go_wp2_with fail
      refine (HL.out _ HW0.out).mono ?_
      rintro z w1 ⟨rfl, hB⟩
      have HD1 := Lib.hid hB
      clear hB hW0 x0 x1 x2 x3
      have w1c0 : w1.cell? ⟨w.heap.size, 0, none⟩ = some (.int .i64 x.op) := HX.out _ HD1.out 0 _ rfl
      have w1c1 : w1.cell? ⟨w.heap.size, 1, none⟩ = some (.int .u64 (x.word : Int)) := HX.out _ HD1.out 1 _ rfl
      have w1c2 : w1.cell? ⟨w.heap.size, 2, none⟩ = some (.string (str x.name)) := HX.out _ HD1.out 2 _ rfl
      have w1c3 : w1.cell? ⟨w.heap.size, 3, none⟩ = some (.slice p x.args.len c) := HX.out _ HD1.out 3 _ rfl
      go_wp2_with fail
      refine (HE.out _ (HW0.out.trans (HD1.out.mono HW0.out.size))).mono ?_
      rintro z w2 ⟨rfl, hB⟩
      have HD2 := Lib.hid (HD1.out.trans (hB.mono HD1.out.size))
      clear hB w1c0 w1c1 w1c2 w1c3
      go_upto_region 4 with fail
      go_cut [18] from 14 to 17 (fun s18 wx => s18 = .bool false ∧ Hid (Below W0.heap.size W0 wx))
      case first =>
        have HS : Below W0.heap.size W0 w2.drew := HD2.out.drew
        refine wp_region_held_drew (S := fun W => Below W0.heap.size W0 W ∧ W.cell? ⟨w.heap.size, 0, none⟩ = some (.int .i64 x.op) ∧ W.cell? ⟨w.heap.size, 1, none⟩ = some (.int .u64 (x.word : Int)) ∧ W.cell? ⟨w.heap.size, 2, none⟩ = some (.string (str x.name)) ∧ W.cell? ⟨w.heap.size, 3, none⟩ = some (.slice p x.args.len c)) (by kernel_rfl) ?_ (fun hHeld => ?_)
        · exact ⟨HS, HX.out _ HS 0 _ rfl, HX.out _ HS 1 _ rfl, HX.out _ HS 2 _ rfl, HX.out _ HS 3 _ rfl⟩
        refine wpAnyH_take (i := 0) (oi := { dst := Option.some 14, op := Go.Op.load 26 (Go.Operand.tmp 1), type := 26, pos := "law.go:41", after := #[], guard := Option.none }) (v := ?_) rfl (by kernel_rfl) (by kernel_rfl) (by kernel_rfl) (fun _ _ _ h => h) (Or.inl ⟨by rfl, ?_⟩) (by assumption) ?_
        rotate_left
        · (intro w hSw; (try dsimp only at hSw); go_simp; try with_reducible rfl)
        try simp only [Act.put, List.setIfInBounds_toArray, List.set_cons_zero, List.set_cons_succ]
        refine wpAnyH_take (i := 2) (oi := { dst := Option.some 16, op := Go.Op.load 26 (Go.Operand.tmp 1), type := 26, pos := "law.go:41", after := #[], guard := Option.none }) (v := ?_) rfl (by kernel_rfl) (by kernel_rfl) (by kernel_rfl) (fun _ _ _ h => h) (Or.inl ⟨by rfl, ?_⟩) (by assumption) ?_
        rotate_left
        · (intro w hSw; (try dsimp only at hSw); go_simp; try with_reducible rfl)
        try simp only [Act.put, List.setIfInBounds_toArray, List.set_cons_zero, List.set_cons_succ]
        refine wpAnyH_ready (rs := [1]) (by kernel_rfl) (by simp) ?_
        refine AllReadyH.cons (o := { dst := Option.some 15, op := Go.Op.call { callee := Go.Callee.value (Go.Operand.func 11), args := #[Go.Operand.tmp 14], argTypes := #[26] }, type := 3, pos := "law.go:41", after := #[{ on := 0, ground := Go.Ground.data }], guard := Option.none }) rfl (fun K hK => ?_) AllReadyH.nil
        go_simp
        refine (HDe.out _ (HW0.out.trans (HS.mono HW0.out.size))).mono ?_
        rintro z wa ⟨rfl, hB'⟩
        replace HS := HS.trans (hB'.mono HS.size)
        clear hB'
        refine hK.out _ _ ?_ (fun hHeld => ?_)
        · exact ⟨HS, HX.out _ HS 0 _ rfl, HX.out _ HS 1 _ rfl, HX.out _ HS 2 _ rfl, HX.out _ HS 3 _ rfl⟩
        clear hK K
        try simp only [Act.put, List.setIfInBounds_toArray, List.set_cons_zero, List.set_cons_succ]
        refine wpAnyH_ready (rs := [3]) (by kernel_rfl) (by simp) ?_
        refine AllReadyH.cons (o := { dst := Option.some 17, op := Go.Op.call { callee := Go.Callee.value (Go.Operand.func 12), args := #[Go.Operand.tmp 16], argTypes := #[26] }, type := 3, pos := "law.go:41", after := #[{ on := 2, ground := Go.Ground.data }, { on := 1, ground := Go.Ground.chain }], guard := Option.none }) rfl (fun K hK => ?_) AllReadyH.nil
        go_simp
        refine (HRd.out _ (HW0.out.trans (HS.mono HW0.out.size))).mono ?_
        rintro z wa ⟨rfl, hB'⟩
        replace HS := HS.trans (hB'.mono HS.size)
        clear hB'
        refine hK.out _ _ ?_ (fun hHeld => ?_)
        · exact ⟨HS, HX.out _ HS 0 _ rfl, HX.out _ HS 1 _ rfl, HX.out _ HS 2 _ rfl, HX.out _ HS 3 _ rfl⟩
        clear hK K
        try simp only [Act.put, List.setIfInBounds_toArray, List.set_cons_zero, List.set_cons_succ]
        refine wpAnyH_take (i := 4) (oi := { dst := Option.some 18, op := Go.Op.binOp Go.BinOp.neq 3 (Go.Operand.tmp 15) (Go.Operand.tmp 17) 3, type := 4, pos := "law.go:41", after := #[{ on := 1, ground := Go.Ground.data }, { on := 3, ground := Go.Ground.data }], guard := Option.none }) (v := .bool false) rfl (by kernel_rfl) (by kernel_rfl) (by kernel_rfl) (fun _ _ _ h => h) (Or.inl ⟨by rfl, ?_⟩) (by assumption) ?_
        · (intro w hSw; (try dsimp only at hSw); go_simp)
        try simp only [Act.put, List.setIfInBounds_toArray, List.set_cons_zero, List.set_cons_succ]
        refine wpAnyH_done (by kernel_rfl) ?_ _
        go_wp2_with fail
        go_meet
        exact ⟨rfl, Lib.hid HS⟩
      case rest =>
        obtain ⟨rfl, HD3⟩ := hcut
        have wcc0 : wc.cell? ⟨w.heap.size, 0, none⟩ = some (.int .i64 x.op) := HX.out _ HD3.out 0 _ rfl
        have wcc1 : wc.cell? ⟨w.heap.size, 1, none⟩ = some (.int .u64 (x.word : Int)) := HX.out _ HD3.out 1 _ rfl
        have wcc2 : wc.cell? ⟨w.heap.size, 2, none⟩ = some (.string (str x.name)) := HX.out _ HD3.out 2 _ rfl
        have wcc3 : wc.cell? ⟨w.heap.size, 3, none⟩ = some (.slice p x.args.len c) := HX.out _ HD3.out 3 _ rfl
        go_wp2_with fail
        refine (HM.out _ (HW0.out.trans (HD3.out.mono HW0.out.size))).mono ?_
        rintro z w4 ⟨rfl, hB⟩
        have HD4 := Lib.hid (HD3.out.trans (hB.mono HD3.out.size))
        clear hB wcc0 wcc1 wcc2 wcc3
        go_wp2_with (go_at_call 14; refine (num_any _ _).mono ?_; rintro e w' ⟨rfl, rfl⟩)
        refine (HK.out _ (HW0.out.trans (HD4.out.mono HW0.out.size))).mono ?_
        rintro z wz ⟨rfl, hB'⟩
        have HBz := Lib.hid ((HW0.out.trans (HD4.out.mono HW0.out.size)).trans (hB'.mono (HW0.out.trans (HD4.out.mono HW0.out.size)).size))
        clear hB'
        go_wp2_with fail
        go_ret
        exact ⟨rfl, HBz.out⟩
end Go.Proofs.YtlhbledakddbbaaGreatDoor
