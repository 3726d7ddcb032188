/- The chapter's rows. -/
import Derived.Test.YtkjhofnkgcjcoaaDoorP16
import Derived.Test.YtkjhofnkgcjcoaaDoorP12
import Derived.Lib.Join
import Derived.Lib.ItoaLen
import Derived.WalkMore
import Derived.Deep.CutBlock
import Derived.Deep.CutRange
import Derived.Deep.RegionHeld
import Derived.Deep.RegionHeld3
namespace Go.Proofs.YtkjhofnkgcjcoaaDoor
open Go.RowKit

def xX : Ex := .mk 2 0 [120] .nil
def xN (n : Nat) : Ex := .mk 1 n [] .nil
def e1 : Ex := .mk 6 0 [] (.cons xX .nil)
def e2 : Ex := .mk 2 0 [102, 111, 114] .nil
def eN : Ex := .mk 4 0 [] (.cons xX .nil)
def e3 : Ex := .mk 3 0 [114] (.cons eN .nil)
def e4 : Ex := .mk 6 0 [] (.cons xX (.cons (xN 1) .nil))
def e5 : Ex := .mk 21 0 [] (.cons (xN 1) (.cons (xN 2) (.cons (xN 3) .nil)))
theorem r1 : exprR e1 = [] ∧ exprE e1 = 2 ∧ e1.may = false ∧ e1.size ≤ 1000000 := by decide
theorem r2 : exprR e2 = [] ∧ exprE e2 = 2 ∧ e2.may = false ∧ e2.size ≤ 1000000 := by decide
theorem r3 : exprR e3 = [114, 91, 126, 120, 93] ∧ exprE e3 = 0 ∧ e3.size ≤ 1000000 ∧ e3.text.length ≤ 1000000000 := by decide
theorem dg1 : Lib.decDigits 1 = [49] := by rw [Lib.decDigits]; rfl
theorem dg2 : Lib.decDigits 2 = [50] := by rw [Lib.decDigits]; rfl
theorem dg3 : Lib.decDigits 3 = [51] := by rw [Lib.decDigits]; rfl
theorem t4 : e4.text = [40, 120, 32, 43, 32, 49, 41] := by
  have h : e4.text = [40] ++ [120] ++ [32] ++ signOf 6 ++ [32] ++ Lib.decDigits 1 ++ [41] := rfl
  rw [h, dg1]; decide
theorem t5 : e5.text = [112, 105, 99, 107, 40, 49, 44, 32, 50, 44, 32, 51, 41] := by
  have h : e5.text = [112, 105, 99, 107] ++ [40] ++ Lib.join [Lib.decDigits 1, Lib.decDigits 2, Lib.decDigits 3] [44, 32] ++ [41] := rfl
  rw [h, dg1, dg2, dg3]; decide
theorem m4 : e4.depth ≤ 64 ∧ e4.may = true ∧ e4.size ≤ 1000000 := by decide
theorem m5 : e5.depth ≤ 64 ∧ e5.may = true ∧ e5.size ≤ 1000000 := by decide
theorem exprR_ok {x : Ex} (h1 : x.depth ≤ 64) (h2 : x.may = true) (h3 : x.text.length ≤ 65536) : exprR x = x.text ∧ exprE x = 0 := by
  unfold exprR exprE
  rw [h2]
  have : ¬ (64 < x.depth ∨ true = false) := by rintro (h | h); omega; exact absurd h (by decide)
  rw [if_neg this, if_neg this, if_neg (by omega), if_neg (by omega)]
  exact ⟨rfl, rfl⟩
theorem r4 : exprR e4 = [40, 120, 32, 43, 32, 49, 41] ∧ exprE e4 = 0 ∧ e4.size ≤ 1000000 ∧ e4.text.length ≤ 1000000000 := by
  obtain ⟨h1, h2⟩ := exprR_ok m4.1 m4.2.1 (by rw [t4]; decide)
  exact ⟨by rw [h1, t4], h2, m4.2.2, by rw [t4]; decide⟩
theorem r5 : exprR e5 = [112, 105, 99, 107, 40, 49, 44, 32, 50, 44, 32, 51, 41] ∧ exprE e5 = 0 ∧ e5.size ≤ 1000000 ∧ e5.text.length ≤ 1000000000 := by
  obtain ⟨h1, h2⟩ := exprR_ok m5.1 m5.2.1 (by rw [t5]; decide)
  exact ⟨by rw [h1, t5], h2, m5.2.2, by rw [t5]; decide⟩

theorem in1 {w : World} {N : Nat} {x : Ex} {p : Option Addr} {c : Nat} (h : x.Ok w N p) (hN : N ≤ w.heap.size) :
    (Exs.cons x .nil).In (w.alloc (.cells #[.int .i64 x.op, .int .u64 (x.word : Int), .string (str x.name), .slice p x.args.len c] 29)) (w.heap.size + 1) (some ⟨w.heap.size, 0, none⟩) :=
  ⟨by show 0 + 1 ≤ _; omega, .inr ⟨_, _, rfl, Nat.lt_succ_self _, Ex.At.new h hN, trivial⟩⟩
theorem okX (w : World) (N : Nat) : xX.Ok w N none := ⟨Exs.In.nil _ _ _, by decide⟩
theorem okN (n : Nat) (hn : n < 100) (w : World) (N : Nat) : (xN n).Ok w N none := ⟨Exs.In.nil _ _ _, by show n < _; omega⟩
theorem in2 (w : World) : (Exs.cons xX (.cons (xN 1) .nil)).In (w.alloc (.cells #[.int .i64 2, .int .u64 0, .string (str [120]), .slice none 0 0, .int .i64 1, .int .u64 1, .string (str []), .slice none 0 0] 29)) (w.heap.size + 1) (some ⟨w.heap.size, 0, none⟩) :=
  ⟨by decide, .inr ⟨_, _, rfl, Nat.lt_succ_self _,
    ⟨⟨by simp [go_sem], by simp [go_sem], by simp [go_sem], by decide⟩, ⟨none, 0, by simp [go_sem, Exs.len], Exs.In.nil _ _ _⟩⟩,
    ⟨⟨by simp [go_sem], by simp [go_sem], by simp [go_sem], by decide⟩, ⟨none, 0, by simp [go_sem, Exs.len], Exs.In.nil _ _ _⟩⟩, trivial⟩⟩
theorem in3 (w : World) : (Exs.cons (xN 1) (.cons (xN 2) (.cons (xN 3) .nil))).In (w.alloc (.cells #[.int .i64 1, .int .u64 1, .string (str []), .slice none 0 0, .int .i64 1, .int .u64 2, .string (str []), .slice none 0 0, .int .i64 1, .int .u64 3, .string (str []), .slice none 0 0] 29)) (w.heap.size + 1) (some ⟨w.heap.size, 0, none⟩) :=
  ⟨by decide, .inr ⟨_, _, rfl, Nat.lt_succ_self _,
    ⟨⟨by simp [go_sem], by simp [go_sem], by simp [go_sem], by decide⟩, ⟨none, 0, by simp [go_sem, Exs.len], Exs.In.nil _ _ _⟩⟩,
    ⟨⟨by simp [go_sem], by simp [go_sem], by simp [go_sem], by decide⟩, ⟨none, 0, by simp [go_sem, Exs.len], Exs.In.nil _ _ _⟩⟩,
    ⟨⟨by simp [go_sem], by simp [go_sem], by simp [go_sem], by decide⟩, ⟨none, 0, by simp [go_sem, Exs.len], Exs.In.nil _ _ _⟩⟩, trivial⟩⟩

set_option maxRecDepth 100000 in
set_option maxHeartbeats 6400000 in
theorem known_any (w : World) (hG : Glob w) : Calls Tryd.prog 13 #[] w fun e w' => e = .returned (.bool true) ∧ Below w.heap.size w w' := by
  have HT := Lib.hid (text_f w.heap.size (w.alloc (.cells #[.string ⟨#[102]⟩, .slice none 0 0, .slice none 0 0, .slice none 0 0, .slice none 0 0] 39)) (heap_alloc_new w _))
  have HG := Lib.hid (fun w' (h : Below w.heap.size w w') => hG.later h)
  clear hG
  go_enter Tryd.func13, Tryd.ntmps13
  go_wp2_with fail
  refine HT.out.mono ?_
  rintro e w1 ⟨rfl, hB⟩
  have HB1 := Lib.hid (((Below.refl _ w).alloc (Nat.le_refl _) _).trans (hB.mono (by simp)))
  clear hB HT
  go_wp2_with fail
  -- region 2
  refine (v_any _ w1).mono ?_
  rintro e w2 ⟨rfl, hB⟩
  have HB2 := Lib.hid (HB1.out.trans (hB.mono HB1.out.size))
  clear hB
  go_wp2_with fail
  refine (op_any _ _ _ _ _).mono ?_
  rintro e w3 ⟨rfl, hB⟩
  have HI := Lib.hid (((in1 (c := 0) (okX w2 0) (Nat.zero_le _))).later (hB.mono (by simp)) (show w2.heap.size + 1 ≤ w3.heap.size by have := hB.size; simpa using this))
  have HB3 := Lib.hid (HB2.out.trans ((((Below.refl _ w2).alloc (Nat.le_refl _) _).trans (hB.mono (by simp))).mono HB2.out.size))
  clear hB
  go_wp2_with fail
  have HX := Lib.hid (expr_any e1 (some ⟨w2.heap.size, 0, none⟩) 1 w3.heap.size w3 r1.2.2.2 ⟨HI.out, by decide⟩ (Nat.le_refl _) (HG.out _ HB3.out) (fun h => absurd (r1.2.2.1.symm.trans h) (by decide)))
  rw [r1.1, r1.2.1] at HX
  refine HX.out.mono ?_
  rintro e w4 ⟨rfl, hB⟩
  have HB4 := Lib.hid (HB3.out.trans (hB.mono HB3.out.size))
  clear hB HX HI HB2 HB3 HB1
  go_wp2_with fail
  -- region 3
  refine (v_any _ w4).mono ?_
  rintro e w5 ⟨rfl, hB⟩
  have HB5 := Lib.hid (HB4.out.trans (hB.mono HB4.out.size))
  clear hB
  go_wp2_with fail
  have HX := Lib.hid (expr_any e2 none 0 0 w5 r2.2.2.2 ⟨Exs.In.nil _ _ _, by decide⟩ (Nat.zero_le _) (HG.out _ HB5.out) (fun h => absurd (r2.2.2.1.symm.trans h) (by decide)))
  rw [r2.1, r2.2.1] at HX
  refine HX.out.mono ?_
  rintro e w6 ⟨rfl, hB⟩
  have HB6 := Lib.hid (HB5.out.trans (hB.mono HB5.out.size))
  clear hB HX HB4 HB5
  go_wp2_with fail
  -- region 4
  refine (v_any _ w6).mono ?_
  rintro e w7 ⟨rfl, hB⟩
  have HB7 := Lib.hid (HB6.out.trans (hB.mono HB6.out.size))
  clear hB
  go_wp2_with fail
  refine (op_any _ _ _ _ _).mono ?_
  rintro e w8 ⟨rfl, hB⟩
  have hI8 := (in1 (c := 0) (okX w7 0) (Nat.zero_le _)).later (hB.mono (by simp)) (show w7.heap.size + 1 ≤ w8.heap.size by have := hB.size; simpa using this)
  have hN8 : eN.Ok w8 w8.heap.size (some ⟨w7.heap.size, 0, none⟩) := ⟨hI8, by decide⟩
  have hI9 := in1 (c := 1) hN8 (Nat.le_refl _)
  have HB8 := Lib.hid (HB7.out.trans ((((Below.refl _ w7).alloc (Nat.le_refl _) _).trans (hB.mono (by simp))).mono HB7.out.size))
  clear hB
  obtain ⟨w9, hw9⟩ : ∃ w9, w8.alloc (.cells #[.int .i64 4, .int .u64 0, .string ⟨#[]⟩, .slice (some ⟨w7.heap.size, 0, none⟩) 1 1] 29) = w9 := ⟨_, rfl⟩
  obtain ⟨w10, hw10⟩ : ∃ w10, w9.alloc (.cells #[.int .i64 3, .int .u64 0, .string ⟨#[114]⟩, .slice (some ⟨w8.heap.size, 0, none⟩) 1 1] 29) = w10 := ⟨_, rfl⟩
  go_wp2_with fail
  have hz9 : w9.heap.size = w8.heap.size + 1 := by rw [← hw9]; simp
  have hz10 : w10.heap.size = w9.heap.size + 1 := by rw [← hw10]; simp
  have hB9 : Below w8.heap.size w8 w9 := by rw [← hw9]; exact (Below.refl _ _).alloc (Nat.le_refl _) _
  have hB10 : Below w9.heap.size w9 w10 := by rw [← hw10]; exact (Below.refl _ _).alloc (Nat.le_refl _) _
  have hI9' : (Exs.cons eN .nil).In w9 (w8.heap.size + 1) (some ⟨w8.heap.size, 0, none⟩) := by rw [← hw9]; exact hI9
  have k7 : w10.heap[w9.heap.size]? = some (.cells #[.int .i64 3, .int .u64 0, .string ⟨#[114]⟩, .slice (some ⟨w8.heap.size, 0, none⟩) 1 1] 29 (0, 0)) := by rw [← hw10]; exact heap_alloc_new w9 _
  have hI10 := hI9'.later (hB10.mono (by omega)) (show w8.heap.size + 1 ≤ w10.heap.size by omega)
  have HE3 := Lib.hid (show ∀ W, Below w10.heap.size w10 W → e3.Ok W W.heap.size (some ⟨w8.heap.size, 0, none⟩) ∧ W.cell? ⟨w9.heap.size, 0, none⟩ = some (.int .i64 3) ∧ W.cell? ⟨w9.heap.size, 1, none⟩ = some (.int .u64 0) ∧ W.cell? ⟨w9.heap.size, 2, none⟩ = some (.string ⟨#[114]⟩) ∧ W.cell? ⟨w9.heap.size, 3, none⟩ = some (.slice (some ⟨w8.heap.size, 0, none⟩) 1 1) from fun W hW => by
    have k := (hW.block _ (lt_of_block k7)).trans k7
    refine ⟨⟨hI10.later hW hW.size, by decide⟩, ?_, ?_, ?_, ?_⟩ <;> simp [World.cell?, k])
  have HB10 := Lib.hid (HB8.out.trans ((hB9.trans (hB10.mono (by omega))).mono HB8.out.size))
  clear hI8 hN8 hI9 hI9' hI10 k7 hB9 hB10 hz9 hz10 hw9 hw10 HB6 HB7 HB8
  generalize w9.heap.size = n9 at HE3 ⊢
  generalize w8.heap.size = n8 at HE3 ⊢
  -- region 5
  have step : ∀ {A B : World}, Below w10.heap.size w10 A → Below A.heap.size A B → Below w10.heap.size w10 B := fun h k => h.trans (k.mono h.size)
  refine (v_any _ w10).mono ?_
  rintro e w11 ⟨rfl, hB11⟩
  go_wp2_with fail
  refine (c_any _ w11).mono ?_
  rintro e w12 ⟨rfl, hB⟩
  have HB12 := Lib.hid (step hB11 hB)
  clear hB hB11
  go_wp2_with fail
  refine (op_any _ _ _ _ _).mono ?_
  rintro e w13 ⟨rfl, hB⟩
  have hI := Lib.hid ((in2 w12).later (hB.mono (by simp)) (show w12.heap.size + 1 ≤ w13.heap.size by have := hB.size; simpa using this))
  have HB13 := Lib.hid (step HB12.out (((Below.refl _ w12).alloc (Nat.le_refl _) _).trans (hB.mono (by simp))))
  clear hB HB12
  have HX := Lib.hid (tells_any e4 (some ⟨w12.heap.size, 0, none⟩) 2 w13.heap.size _ w13 r4.2.2.1 ⟨hI.out, by decide⟩ (Nat.le_refl _) (HG.out _ (HB10.out.trans (HB13.out.mono HB10.out.size))) (fun _ => r4.2.2.2) r4.1 r4.2.1)
  go_wp2_with fail
  refine HX.out.mono ?_
  rintro e w14 ⟨rfl, hB⟩
  have HB14 := Lib.hid (step HB13.out hB)
  clear hB HX hI HB13
  obtain ⟨ok3, c30, c31, c32, c33⟩ := HE3.out w14 HB14.out
  have HX := Lib.hid (tells_any e3 (some ⟨n8, 0, none⟩) 1 w14.heap.size _ w14 r3.2.2.1 ok3 (Nat.le_refl _) (HG.out _ (HB10.out.trans (HB14.out.mono HB10.out.size))) (fun _ => r3.2.2.2) r3.1 r3.2.1)
  clear ok3
  go_wp2_with fail
  refine HX.out.mono ?_
  rintro e w15 ⟨rfl, hB⟩
  have HB15 := Lib.hid (step HB14.out hB)
  clear hB HX c30 c31 c32 c33 HE3 HB14
  go_wp2_with fail
  refine (c_any _ w15).mono ?_
  rintro e w16 ⟨rfl, hB⟩
  have HB16 := Lib.hid (step HB15.out hB)
  clear hB HB15
  go_wp2_with fail
  refine (c_any _ w16).mono ?_
  rintro e w17 ⟨rfl, hB⟩
  have HB17 := Lib.hid (step HB16.out hB)
  clear hB HB16
  go_wp2_with fail
  refine (c_any _ w17).mono ?_
  rintro e w18 ⟨rfl, hB⟩
  have HB18 := Lib.hid (step HB17.out hB)
  clear hB HB17
  go_wp2_with fail
  refine (op_any _ _ _ _ _).mono ?_
  rintro e w19 ⟨rfl, hB⟩
  have hI := Lib.hid ((in3 w18).later (hB.mono (by simp)) (show w18.heap.size + 1 ≤ w19.heap.size by have := hB.size; simpa using this))
  have HB19 := Lib.hid (step HB18.out (((Below.refl _ w18).alloc (Nat.le_refl _) _).trans (hB.mono (by simp))))
  clear hB HB18
  have HX := Lib.hid (tells_any e5 (some ⟨w18.heap.size, 0, none⟩) 3 w19.heap.size _ w19 r5.2.2.1 ⟨hI.out, by decide⟩ (Nat.le_refl _) (HG.out _ (HB10.out.trans (HB19.out.mono HB10.out.size))) (fun _ => r5.2.2.2) r5.1 r5.2.1)
  go_wp2_with fail
  refine HX.out.mono ?_
  rintro e w20 ⟨rfl, hB⟩
  have HBz := Lib.hid (HB10.out.trans ((step HB19.out hB).mono HB10.out.size))
  clear hB HX hI HB19 HB10 step HG
  have ht : (⟨(txt 2).toArray⟩ : ByteArray) = ⟨#[102, 110, 32, 102, 40, 41, 32, 123, 10, 125, 10]⟩ := rfl
  rw [ht]
  go_wp2_with fail
  refine (num_any _ _).mono ?_
  rintro e wq ⟨rfl, rfl⟩
  go_wp2_with fail
  refine (num_any _ _).mono ?_
  rintro e wq ⟨rfl, rfl⟩
  go_wp2_with fail
  refine (num_any _ _).mono ?_
  rintro e wq ⟨rfl, rfl⟩
  go_wp2_with fail
  go_ret
  exact ⟨rfl, HBz.out⟩
end Go.Proofs.YtkjhofnkgcjcoaaDoor
/- The law on expressions: its walk. -/
namespace Go.Proofs.YtkjhofnkgcjcoaaDoor
open Go.RowKit

mutual
def Ex.fine : Ex → Prop
  | .mk _ x _ a => x < 18446744073709551616 ∧ a.fine
def Exs.fine : Exs → Prop
  | .nil => True
  | .cons x r => x.fine ∧ r.fine
end
mutual
theorem Ex.At.fine {w : World} {N : Nat} : ∀ (x : Ex) (b o : Nat), x.At w N b o → x.fine
  | .mk op x nm as', b, o, h => by
    obtain ⟨⟨h0, h1, h2, h3⟩, ⟨p, c, h4, s4⟩⟩ := h
    refine ⟨h3, ?_⟩
    rcases s4.2 with h0 | ⟨b', o', _, _, ha⟩
    · cases as' with
      | nil => trivial
      | cons => simp [Exs.len] at h0
    · exact Exs.At.fine as' b' o' ha
theorem Exs.At.fine {w : World} {N : Nat} : ∀ (l : Exs) (b o : Nat), l.At w N b o → l.fine
  | .nil, _, _, _ => trivial
  | .cons x r, b, o, h => ⟨Ex.At.fine x b o h.1, Exs.At.fine r b (o + 4) h.2⟩
end
theorem Ex.Ok.fine {w : World} {N : Nat} {x : Ex} {p : Option Addr} (h : x.Ok w N p) : x.fine := by
  obtain ⟨op, wd, nm, ar⟩ := x
  refine ⟨h.2, ?_⟩
  rcases h.1.2 with h0 | ⟨b', o', _, _, ha⟩
  · cases ar with
    | nil => trivial
    | cons => simp [Ex.args, Exs.len] at h0
  · exact Exs.At.fine ar b' o' ha
mutual
theorem Ex.size_total : ∀ x : Ex, x.size + 1 ≤ 2 * x.total
  | .mk _ _ nm a => by have := Exs.size_total a; simp only [Ex.size, Ex.total]; omega
theorem Exs.size_total : ∀ a : Exs, a.size ≤ 2 * a.total
  | .nil => Nat.le_refl _
  | .cons x r => by have := Ex.size_total x; have := Exs.size_total r; simp only [Exs.size, Exs.total]; omega
end
def sumL : List (List UInt8) → Nat
  | [] => 0
  | x :: r => x.length + 2 + sumL r
theorem joinL_len (ts : List (List UInt8)) : (Lib.join ts [44, 32]).length ≤ sumL ts := by
  have tail : ∀ r : List (List UInt8), (Lib.joinTail [44, 32] r).length ≤ sumL r := fun r => by
    induction r with
    | nil => exact Nat.le_refl _
    | cons x r ih => simp only [Lib.joinTail, List.map_cons, List.flatten_cons, List.length_append, List.length_cons, List.length_nil, sumL] at ih ⊢; omega
  cases ts with
  | nil => exact Nat.le_refl _
  | cons x r =>
    have := tail r
    rw [Lib.join_cons, List.length_append, sumL]; omega
theorem dec_len {x : Nat} (h : x < 18446744073709551616) : (Lib.decDigits x).length ≤ 20 := by
  rw [Lib.decDigits_length]
  exact Lib.nDigits_le20 x h
theorem sign_len (op : Int) : (signOf op).length ≤ 4 := by
  by_cases h : op < 6 ∨ 20 < op
  · rw [(no_sign h).2]; exact Nat.zero_le _
  · rcases fifteen (o := op) (by omega) (by omega) with rfl | rfl | rfl | rfl | rfl | rfl | rfl | rfl | rfl | rfl | rfl | rfl | rfl | rfl | rfl <;> decide
theorem text_len {op : Int} {x : Nat} {nm : List UInt8} {ts : List (List UInt8)} (h : x < 18446744073709551616) : (textOf op x nm ts).length ≤ 28 + nm.length + sumL ts := by
  have h0 : (ts.getD 0 []).length + (ts.getD 1 []).length ≤ sumL ts := by
    cases ts with
    | nil => exact Nat.le_refl _
    | cons a r =>
      cases r with
      | nil => simp [sumL]
      | cons b r => simp [sumL]; omega
  have := dec_len h
  have := sign_len op
  have := joinL_len ts
  unfold textOf
  repeat' split
  all_goals first | omega | (simp only [List.length_append, List.length_cons, List.length_nil]; omega)
mutual
theorem Ex.text_le : ∀ x : Ex, x.fine → x.text.length + 2 ≤ 30 * x.total
  | .mk op x nm a, h => by
    have h1 := Exs.text_le a h.2
    have h2 := text_len (op := op) (nm := nm) (ts := a.texts) h.1
    simp only [Ex.text, Ex.total]; omega
theorem Exs.text_le : ∀ a : Exs, a.fine → sumL a.texts ≤ 30 * a.total
  | .nil, _ => Nat.le_refl _
  | .cons x r, h => by
    have h1 := Ex.text_le x h.1
    have h2 := Exs.text_le r h.2
    simp only [Exs.texts, sumL, Exs.total]; omega
end
end Go.Proofs.YtkjhofnkgcjcoaaDoor
