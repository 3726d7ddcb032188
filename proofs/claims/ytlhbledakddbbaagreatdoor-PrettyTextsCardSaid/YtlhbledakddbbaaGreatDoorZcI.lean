/- U10, U12, U14, U13, U15, U11 as one. -/
import Derived.WalkMore
import Derived.Deep.CutBlock
import Derived.Deep.CutRange
import Derived.Test.YtlhbledakddbbaaGreatDoorZcH
/- The document's args: expressions' texts. -/
namespace Go.Proofs.YtlhbledakddbbaaGreatDoor
open Go.RowKit

def strC (ts : List (List UInt8)) : List Value := ts.map fun t => Value.string (str t)
theorem row_strC {w : World} {b : Nat} : ∀ (ts : List (List UInt8)) (o : Nat), (∀ j u, (strC ts)[j]? = some u → w.cell? ⟨b, o + j, none⟩ = some u) → Row (StrAt w) 1 ts b o
  | [], _, _ => trivial
  | t :: ts, o, h => ⟨h 0 _ rfl, row_strC ts (o + 1) fun j u hu => by rw [show o + 1 + j = o + (j + 1) by omega]; exact h (j + 1) u hu⟩
theorem own_strs {w : World} {B : Nat} {v : Value} {ts : List (List UInt8)} (h : w.ownsRow B 9 1 v ts.length (strC ts)) (hl : ts.length ≤ 140737488355328) : ∃ p c, v = .slice p ts.length c ∧ RowIn w.heap.size (StrAt w) 1 ts p := by
  obtain ⟨p, c, hv, h1, h2, h3, h4⟩ := own_cap h
  refine ⟨p, c, hv, hl, ?_⟩
  cases p with
  | none => exact .inl (h3 rfl).1
  | some ad =>
    obtain ⟨g, rfl, hb, hlt, hf, hc⟩ := h4 ad rfl
    exact .inr ⟨g, 0, rfl, hlt, row_strC ts 0 fun j u hu => by rw [Nat.zero_add]; exact hc j u hu⟩
theorem own_later {w w' : World} {base : Nat} {e : TypeId} {size n : Nat} {v : Value} {xs : List Value} (h : w.ownsRow base e size v n xs) (hB : Below w.heap.size w w') : w'.ownsRow base e size v n xs := by
  refine ⟨h.1, ?_⟩
  rcases h.2 with h0 | ⟨g, cap, cur, hv, hbg, hg, hr⟩
  · exact .inl h0
  · exact .inr ⟨g, cap, cur, hv, hbg, (hB.block g (h.lt g (by rw [hv]; rfl)).2).trans hg, hr⟩
theorem Exs.texts_len : ∀ l : Exs, l.texts.length = l.len
  | .nil => rfl
  | .cons x r => by simp [Exs.texts, Exs.len, Exs.texts_len r]

set_option maxRecDepth 100000 in
set_option maxHeartbeats 3200000 in
theorem rargsT_any (l : Exs) (hm : l.may = true) (hl : sumL l.texts ≤ 1000000) (hn : l.len ≤ 1000000) (p : Option Addr) (c N : Nat) (w : World) (hN : N ≤ w.heap.size) (h : l.In w N p) (hG : Glob w) :
    Calls Tryz.prog 102 #[.slice p l.len c] w fun e w' => (∃ q d, e = .returned (.slice q l.texts.length d) ∧ RowIn w'.heap.size (StrAt w') 1 l.texts q) ∧ Below w.heap.size w w' := by
  obtain ⟨i0, hi, hz0, hz1, hz2⟩ := info_parts info_str1
  have S1 := Lib.hid h
  have hm1 := h.1
  have HNN := Lib.hid hN
  have HG := Lib.hid hG
  have HTL := Lib.hid (Exs.texts_len l)
  clear h hN hG
  go_enter Tryz.func102, Tryz.ntmps102
  go_wp2_with fail
  go_loopw [3, 4] (fun out i wr => ∃ (k : Nat) (r : Exs) (ts : List (List UInt8)), i = .int .i64 k ∧ k + r.len = l.len ∧ ts.length = k ∧ r.may = true ∧ sumL r.texts ≤ 1000000 ∧ Hid (∀ b o, p = some ⟨b, o, none⟩ → l.At w N b o → r.At w N b (o + k * 4)) ∧ Hid (l.texts = ts ++ r.texts) ∧ Hid (wr.ownsRow w.heap.size 9 1 out ts.length (strC ts)) ∧ Hid (Below w.heap.size w wr)) (fun _ i _ => l.len - (intOf i).toNat)
  case atStart => exact ⟨0, l, [], rfl, by omega, rfl, hm, hl, Lib.hid fun b o _ h => by rw [Nat.zero_mul]; exact h, Lib.hid rfl, Lib.hid (World.ownsRow_nil _ _ _ _), Lib.hid (Below.refl _ _)⟩
  case round =>
    obtain ⟨k, r, ts, rfl, hk, hts, hrm, hrl, hat, hE, hown, hB⟩ := hrel
    cases r with
    | nil =>
      simp only [Exs.len] at hk
      have hge : ¬ k < l.len := by omega
      have hT : l.texts = ts := by have := hE.out; simpa [Exs.texts] using this
      obtain ⟨q, d, rfl, hrow⟩ := own_strs hown.out (by omega)
      have HRow := Lib.hid hrow
      clear hrow hown hat
      go_wp2_with fail
      go_ret
      rw [hT]
      exact ⟨⟨q, d, rfl, HRow.out⟩, hB.out⟩
    | cons y r =>
      simp only [Exs.len] at hk
      simp only [Exs.may, Bool.and_eq_true] at hrm
      simp only [Exs.texts, sumL] at hrl
      have hlt : k < l.len := by omega
      rcases S1.out.2 with h30 | ⟨b, o, rfl, hb, ha⟩
      · omega
      obtain ⟨hx, hr⟩ := hat.out b o rfl ha
      have HR := Lib.hid hr
      obtain ⟨wo, rfl⟩ : ∃ wo : World, wo = wr := ⟨_, rfl⟩
      obtain ⟨pe, ce, d0, d1, d2, d3, ok⟩ := (Ex.At.later (hB.out.mono HNN.out) (Nat.le_refl _) y b _ hb hx).open
      have HM := Lib.hid (rExpr_any y hrm.1 (by omega) pe ce N wo ok (Nat.le_trans HNN.out hB.out.size) (HG.out.later hB.out))
      unfold Ex.val at HM
      have HE := Lib.hid (show l.texts = (ts ++ [y.text]) ++ r.texts by rw [hE.out]; simp [Exs.texts])
      have hym := hrm.2
      have hyl : sumL r.texts ≤ 1000000 := by omega
      generalize y.text = t at *
      clear hx hr ha hE ok hrm hrl hat
      go_wp2_with fail
      refine HM.out.mono ?_
      rintro z w3 ⟨rfl, hB3⟩
      have hown3 := own_later hown.out hB3
      have HB3 := Lib.hid (hB.out.trans (hB3.mono hB.out.size))
      have hws := HB3.out.size
      clear hB3 d0 d1 d2 d3 hown
      go_wp2_with (at_builtin; refine wpList_append_own _ rfl _ _ 46 rfl w.heap.size 9 i0 (.string ByteArray.empty) 1 16 Tryz.underlying46 hi hz0 hz1 hz2 rfl (by decide) _ _ _ rfl (hown3.alloc _) ⟨w3.heap.size, 0, none⟩ 1 1 [.string (str t)] rfl rfl ?c1 ?c2 ?c3 ?c4 ?c5 ?_)
      case c1 => intro j u hj; match j, hj with
        | 0, hj => simp at hj; subst hj; simp [go_sem, Addr.add]
      case c2 => intro u hu; simp at hu; subst hu; rfl
      case c3 => unfold maxLen; omega
      case c4 => omega
      case c5 => simp; omega
      intro v' w4 hown4 hgrow _
      have HO := Lib.hid (show w4.ownsRow w.heap.size 9 1 v' (ts ++ [t]).length (strC (ts ++ [t])) by rw [List.length_append, hts]; simpa [strC] using hown4)
      have HB4 := Lib.hid ((HB3.out.alloc HB3.out.size _).grown hgrow (by simp; omega) (fun k hk => (hown3.lt k hk).1))
      clear hown4 hgrow hown3
      go_wp2_with fail
      go_roundw
      case rel => exact ⟨k + 1, r, ts ++ [t], by go_num, by omega, by simp; omega, hym, hyl, Lib.hid fun b' o' e _ => by cases e; rw [show o + (k + 1) * 4 = o + k * 4 + 4 by omega]; exact HR.out, HE, HO, HB4⟩
      case measure => simp [intOf]; omega
end Go.Proofs.YtlhbledakddbbaaGreatDoor
/- Rows of lines of the call's own: one line appended, a row of lines appended. -/
namespace Go.Proofs.YtlhbledakddbbaaGreatDoor
open Go.RowKit

def lnC : List (Nat × List UInt8) → List Value
  | [] => []
  | x :: r => .int .i64 (x.1 : Int) :: .string (str x.2) :: lnC r
theorem lnC_len : ∀ l : List (Nat × List UInt8), (lnC l).length = l.length * 2
  | [] => rfl
  | x :: r => by simp only [lnC, List.length_cons, lnC_len r]; omega
theorem lnC_app : ∀ a b : List (Nat × List UInt8), lnC (a ++ b) = lnC a ++ lnC b
  | [], _ => rfl
  | x :: r, b => by simp only [lnC, List.cons_append, lnC_app r b]
theorem lnC_one : ∀ (l : List (Nat × List UInt8)), ∀ u ∈ lnC l, u.oneCell' = true
  | [], _, h => by cases h
  | x :: r, u, h => by
    rcases List.mem_cons.1 h with rfl | h
    · rfl
    · rcases List.mem_cons.1 h with rfl | h
      · rfl
      · exact lnC_one r u h
/-- lines that lie in a row of the call's own -/
def LnRow (B : Nat) (w : World) (ls : List (Nat × List UInt8)) (v : Value) : Prop := w.ownsRow B 104 2 v ls.length (lnC ls)
theorem LnRow.nil (B : Nat) (w : World) : LnRow B w [] (.slice none 0 0) := World.ownsRow_nil _ _ _ _
theorem LnRow.later {B : Nat} {w w' : World} {ls : List (Nat × List UInt8)} {v : Value} (h : LnRow B w ls v) (hB : Below w.heap.size w w') : LnRow B w' ls v := own_later h hB
theorem LnRow.src {B : Nat} {w : World} {ls : List (Nat × List UInt8)} {v : Value} (h : LnRow B w ls v) : ∃ p c, v = .slice p ls.length c ∧ Src w 2 p ls.length c (lnC ls) := by
  rcases h.2 with ⟨rfl, h0⟩ | ⟨g, cap, cur, rfl, _⟩
  · exact ⟨none, 0, by rw [h0], lnC_len ls, .inl ⟨rfl, h0, rfl⟩⟩
  · exact ⟨_, cap, rfl, lnC_len ls, .inr ⟨_, rfl, World.ownsRow.cells h (g := g) rfl⟩⟩
theorem info_ln : (Tryz.prog.info? 104).map (fun i => (i.zero, i.size, i.bytes)) = some (some (.agg #[.int .i64 0, .string ByteArray.empty]), 2, 24) := by kernel_rfl
/-- a block that holds lines -/
def isLn (o : Obj) : Prop := ∃ cur, o = .cells cur 104 (0, 0)
theorem stmt_notLn (A : Array Value) : ¬ isLn (.cells A 54 (0, 0)) := by rintro ⟨c, h⟩; exact absurd h (by simp)
/-- all is as it was but rows of lines from B on -/
structure KpL (B : Nat) (w w' : World) : Prop where
  os : w'.os = w.os
  tape : w'.tape = w.tape
  output : w'.output = w.output
  size : w.heap.size ≤ w'.heap.size
  block : ∀ (k : Nat) (o : Obj), w.heap[k]? = some o → (k < B ∨ ¬ isLn o) → w'.heap[k]? = some o
theorem KpL.refl (B : Nat) (w : World) : KpL B w w := ⟨rfl, rfl, rfl, Nat.le_refl _, fun _ _ h _ => h⟩
theorem KpL.trans {B : Nat} {x y z : World} (h : KpL B x y) (k : KpL B y z) : KpL B x z :=
  ⟨k.os.trans h.os, k.tape.trans h.tape, k.output.trans h.output, Nat.le_trans h.size k.size, fun i o hi hB => k.block i o (h.block i o hi hB) hB⟩
theorem KpL.of_below {B : Nat} {w w' : World} (h : Below w.heap.size w w') : KpL B w w' :=
  ⟨h.os, h.tape, h.output, h.size, fun k _ hk _ => (h.block k (lt_of_block hk)).trans hk⟩
theorem KpL.below {B : Nat} {w w' : World} (h : KpL B w w') (hs : B ≤ w.heap.size) : Below B w w' :=
  ⟨h.os, h.tape, h.output, h.size, fun k hk => by
    have hlt : k < w.heap.size := by omega
    rw [Array.getElem?_eq_getElem hlt]
    exact h.block k _ (Array.getElem?_eq_getElem hlt) (.inl hk)⟩
theorem LnRow.kept {B : Nat} {w w' : World} {ls : List (Nat × List UInt8)} {v : Value} (h : LnRow B w ls v) (hg : w.grownBy w' v.ownBlock) : KpL B w w' :=
  ⟨hg.os, hg.tape, hg.output, hg.size, fun k o hk hor => by
    rw [hg.block k (lt_of_block hk) ?_]
    · exact hk
    · intro e
      rcases h.2 with ⟨rfl, _⟩ | ⟨g, cap, cur, rfl, hb, hh, _⟩
      · cases e
      · have : g = k := by simpa [Value.ownBlock] using e.symm
        subst this
        rw [hk] at hh; cases hh
        rcases hor with h1 | h1
        · omega
        · exact h1 ⟨_, rfl⟩⟩
/-- an append of one line, behind the row that holds it -/
theorem step_line {B : Nat} {ls : List (Nat × List UInt8)} {x : Nat × List UInt8} {ops : Array Oper} {o : Oper} {a : Act} {w : World} {K : Act → World → Prop} {Q : Exit → Act → World → Prop} {E : Prop} {v : Value}
    (hgd : o.guard = none) (s y : Operand)
    (ho : o.op = .call { callee := .builtin .append, args := #[s, y], argTypes := #[100, 100] })
    (hs : a.eval s = v) (hR : LnRow B w ls v) (hB : B ≤ w.heap.size) (hl : ls.length ≤ 1000000000) (b : Nat)
    (hx : a.eval y = .slice (some ⟨b, 0, none⟩) 1 1) (c0 : w.cell? ⟨b, 0, none⟩ = some (.int .i64 (x.1 : Int))) (c1 : w.cell? ⟨b, 1, none⟩ = some (.string (str x.2)))
    (h : ∀ v' w', LnRow B w' (ls ++ [x]) v' → KpL B w w' → K (a.put o.dst v') w') :
    if Region.wanted o (yielded ops a.tmps) = true then Oper.wp Tryz.prog o a w K Q else E := by
  obtain ⟨i0, hi, hz0, hz1, hz2⟩ := info_parts info_ln
  rw [if_pos (by simp [Region.wanted, hgd])]
  refine wp_append_own w s y 100 ho B 104 i0 (.agg #[.int .i64 0, .string ByteArray.empty]) 2 24 Tryz.underlying100 hi hz0 hz1 hz2 rfl (by decide) v ls.length (lnC ls) hs hR ⟨b, 0, none⟩ 1 1 [.int .i64 (x.1 : Int), .string (str x.2)] hx rfl ?_ ?_ ?_ ?_ hB ?_
  · intro j u hj; match j, hj with
    | 0, hj => simp at hj; subst hj; exact c0
    | 1, hj => simp at hj; subst hj; simpa [Addr.add] using c1
  · intro u hu; simp at hu; rcases hu with rfl | rfl <;> rfl
  · unfold maxLen; omega
  · omega
  · intro v' w' h2 h3 _
    refine h v' w' ?_ (hR.kept h3)
    unfold LnRow
    rw [lnC_app]
    simpa [lnC] using h2
/-- an append of lines that lie somewhere -/
theorem step_lines {B : Nat} {ls xs : List (Nat × List UInt8)} {ops : Array Oper} {o : Oper} {a : Act} {w : World} {K : Act → World → Prop} {Q : Exit → Act → World → Prop} {E : Prop} {v : Value}
    (hgd : o.guard = none) (s y : Operand)
    (ho : o.op = .call { callee := .builtin .append, args := #[s, y], argTypes := #[100, 100] })
    (hs : a.eval s = v) (hR : LnRow B w ls v) (hB : B ≤ w.heap.size) (hl : ls.length + xs.length ≤ 1000000000) (p : Option Addr) (c : Nat)
    (hx : a.eval y = .slice p xs.length c) (hsrc : Src w 2 p xs.length c (lnC xs))
    (h : ∀ v' w', LnRow B w' (ls ++ xs) v' → KpL B w w' → K (a.put o.dst v') w') :
    if Region.wanted o (yielded ops a.tmps) = true then Oper.wp Tryz.prog o a w K Q else E := by
  obtain ⟨i0, hi, hz0, hz1, hz2⟩ := info_parts info_ln
  rw [if_pos (by simp [Region.wanted, hgd])]
  obtain ⟨_, ⟨rfl, h0, rfl⟩ | ⟨ad, rfl, hc⟩⟩ := hsrc
  · obtain rfl : xs = [] := List.eq_nil_of_length_eq_zero h0
    have hrun := run_append_owned_none (P := Tryz.prog) (w := w) B 100 o.type 104 i0 2 Tryz.underlying100 hi v ls.length (lnC ls) hR
    unfold Oper.wp
    simp [execOp, ho, resolve, invoke, builtin, hs, hx, hrun, Result.andThen]
    exact h v w (by rw [List.append_nil]; exact hR) (KpL.refl _ _)
  · refine wp_append_own w s y 100 ho B 104 i0 (.agg #[.int .i64 0, .string ByteArray.empty]) 2 24 Tryz.underlying100 hi hz0 hz1 hz2 rfl (by decide) v ls.length (lnC ls) hs hR ad xs.length c (lnC xs) hx (lnC_len xs) hc (lnC_one xs) ?_ ?_ hB ?_
    · unfold maxLen; omega
    · omega
    · intro v' w' h2 h3 _
      refine h v' w' ?_ (hR.kept h3)
      unfold LnRow
      rw [lnC_app]
      simpa using h2
end Go.Proofs.YtlhbledakddbbaaGreatDoor
/- One line appended outside a drawn region; how long joined texts are. -/
namespace Go.Proofs.YtlhbledakddbbaaGreatDoor
open Go.RowKit

theorem wpList_line {B : Nat} {ls : List (Nat × List UInt8)} {x : Nat × List UInt8} {ops : Array Oper} {rest : List Oper} {o : Oper} {a : Act} {w : World} {Q : Exit → Act → World → Prop} {v : Value}
    (hgd : o.guard = none) (s y : Operand)
    (ho : o.op = .call { callee := .builtin .append, args := #[s, y], argTypes := #[100, 100] })
    (hs : a.eval s = v) (hR : LnRow B w ls v) (hB : B ≤ w.heap.size) (hl : ls.length ≤ 1000000000) (b : Nat)
    (hx : a.eval y = .slice (some ⟨b, 0, none⟩) 1 1) (c0 : w.cell? ⟨b, 0, none⟩ = some (.int .i64 (x.1 : Int))) (c1 : w.cell? ⟨b, 1, none⟩ = some (.string (str x.2)))
    (h : ∀ v' w', LnRow B w' (ls ++ [x]) v' → KpL B w w' → wpList Tryz.prog ops Q rest (a.put o.dst v') w') :
    wpList Tryz.prog ops Q (o :: rest) a w := by
  obtain ⟨i0, hi, hz0, hz1, hz2⟩ := info_parts info_ln
  refine wpList_append_own w hgd s y 100 ho B 104 i0 (.agg #[.int .i64 0, .string ByteArray.empty]) 2 24 Tryz.underlying100 hi hz0 hz1 hz2 rfl (by decide) v ls.length (lnC ls) hs hR ⟨b, 0, none⟩ 1 1 [.int .i64 (x.1 : Int), .string (str x.2)] hx rfl ?_ ?_ ?_ ?_ hB ?_
  · intro j u hj; match j, hj with
    | 0, hj => simp at hj; subst hj; exact c0
    | 1, hj => simp at hj; subst hj; simpa [Addr.add] using c1
  · intro u hu; simp at hu; rcases hu with rfl | rfl <;> rfl
  · unfold maxLen; omega
  · omega
  · intro v' w' h2 h3 _
    refine h v' w' ?_ (hR.kept h3)
    unfold LnRow
    rw [lnC_app]
    simpa [lnC] using h2
theorem joinTail_sum (r : List (List UInt8)) : (Lib.joinTail [44, 32] r).length = sumL r := by
  induction r with
  | nil => rfl
  | cons x r ih => simp only [Lib.joinTail, List.map_cons, List.flatten_cons, List.length_append, List.length_cons, List.length_nil, sumL] at ih ⊢; omega
theorem sumL_two (r : List (List UInt8)) : 2 * r.length ≤ sumL r := by
  induction r with
  | nil => exact Nat.le_refl _
  | cons x r ih => simp only [List.length_cons, sumL]; omega
theorem join_sum (ts : List (List UInt8)) : sumL ts ≤ (Lib.join ts [44, 32]).length + 2 ∧ 2 * ts.length ≤ (Lib.join ts [44, 32]).length + 2 := by
  have h2 := sumL_two ts
  have h1 : sumL ts ≤ (Lib.join ts [44, 32]).length + 2 := by
    cases ts with
    | nil => exact Nat.zero_le _
    | cons x r => rw [Lib.join_cons, List.length_append, joinTail_sum, sumL]; omega
  exact ⟨h1, by omega⟩
end Go.Proofs.YtlhbledakddbbaaGreatDoor
/- The document's Lines. -/
namespace Go.Proofs.YtlhbledakddbbaaGreatDoor
open Go.RowKit

theorem stsNil_may {l : Sts} (h : l.len = 0) : l.may = true := by cases l with | nil => rfl | cons => simp [Sts.len] at h
def RL (n : Nat) : Prop := ∀ l : Sts, l.size < n → l.may = true → ∀ (t : Nat), t + l.deep ≤ 1000 → (∀ y ∈ l.lines t, y.2.length ≤ 1000000) → (l.lines t).length ≤ 1000000 →
  ∀ (p : Option Addr) (c N : Nat) (w : World), N ≤ w.heap.size → l.In w N p → Glob w →
  Calls Tryz.prog 60 #[.slice p l.len c, .int .i64 (t : Int)] w fun e w' => (∃ v, e = .returned v ∧ LnRow w.heap.size w' (l.lines t) v) ∧ Below w.heap.size w w'
set_option maxRecDepth 100000 in
set_option maxHeartbeats 6400000 in
theorem rlines_one (n : Nat) (ih : RL n) (l : Sts) (hsz : l.size < n + 1) (hmay : l.may = true) (t : Nat) (hdeep : t + l.deep ≤ 1000) (hlen : ∀ y ∈ l.lines t, y.2.length ≤ 1000000) (hcnt : (l.lines t).length ≤ 1000000)
    (p : Option Addr) (c N : Nat) (w : World) (hN : N ≤ w.heap.size) (hin : l.In w N p) (hG : Glob w) :
    Calls Tryz.prog 60 #[.slice p l.len c, .int .i64 (t : Int)] w fun e w' => (∃ v, e = .returned v ∧ LnRow w.heap.size w' (l.lines t) v) ∧ Below w.heap.size w w' := by
  have S1 := Lib.hid hin
  have IH := Lib.hid ih
  have hm1 := hin.1
  have HNN := Lib.hid hN
  have HG := Lib.hid hG
  clear hin ih hN hG
  go_enter Tryz.func60, Tryz.ntmps60
  go_wp2_with fail
  go_loopw [5, 6] (fun out i wr => ∃ (k : Nat) (r : Sts) (ls : List (Nat × List UInt8)), i = .int .i64 k ∧ k + r.len = l.len ∧ r.size < n + 1 ∧ r.may = true ∧ t + r.deep ≤ 1000 ∧ Hid (∀ y ∈ r.lines t, y.2.length ≤ 1000000) ∧ ls.length + (r.lines t).length ≤ 1000000 ∧ Hid (∀ b o, p = some ⟨b, o, none⟩ → l.At w N b o → r.At w N b (o + k * 16)) ∧ Hid (l.lines t = ls ++ r.lines t) ∧ Hid (LnRow w.heap.size wr ls out) ∧ Hid (Below w.heap.size w wr)) (fun _ i _ => l.len - (intOf i).toNat)
  case atStart => exact ⟨0, l, [], rfl, by omega, hsz, hmay, hdeep, Lib.hid hlen, by simpa using hcnt, Lib.hid fun b o _ h => by rw [Nat.zero_mul]; exact h, Lib.hid rfl, Lib.hid (LnRow.nil _ _), Lib.hid (Below.refl _ _)⟩
  case round =>
    obtain ⟨k, r, ls, rfl, hk, hrs, hrm, hrd, hrl, hrc, hat, hE, hown, hB⟩ := hrel
    cases r with
    | nil =>
      simp only [Sts.len] at hk
      have hge : ¬ k < l.len := by omega
      have HT := Lib.hid (show l.lines t = ls by have := hE.out; simpa [Sts.lines] using this)
      clear hat hrl hE
      go_wp2_with fail
      go_ret
      exact ⟨⟨_, rfl, by rw [HT.out]; exact hown.out⟩, hB.out⟩
    | cons x r =>
      have hlsl : ls.length ≤ 1000000 := by omega
      simp only [Sts.len] at hk
      simp only [Sts.size] at hrs
      simp only [Sts.may, Bool.and_eq_true] at hrm
      simp only [Sts.deep] at hrd
      have hlt : k < l.len := by omega
      rcases S1.out.2 with h30 | ⟨b, o, rfl, hb, ha⟩
      · omega
      obtain ⟨hx, hr⟩ := hat.out b o rfl ha
      have HR := Lib.hid hr
      obtain ⟨wo, rfl⟩ : ∃ wo : World, wo = wr := ⟨_, rfl⟩
      obtain ⟨s, c1, okN⟩ := St.At.openP (St.At.later (hB.out.mono HNN.out) (Nat.le_refl N) x b _ hb hx)
      have ok1 : St.OkP wo wo.heap.size x s := St.Ok.later okN (Below.refl _ _) (Nat.le_trans HNN.out hB.out.size)
      have hbl : b < wo.heap.size := by have := hB.out.size; have := HNN.out; omega
      obtain ⟨A1, hA1⟩ : ∃ A1, x.cells s = A1 := ⟨_, rfl⟩
      have HZ1 := Lib.hid (show A1.size = 16 by rw [← hA1]; rfl)
      have HO1 := Lib.hid (show A1.all (·.oneCell') = true by rw [← hA1]; exact oneSt _ _)
      have F1 := Lib.hid (show wo.rangeAt b (o + k * 16) A1.toList from fun j z hz => c1 j z (by rw [hA1, ← Array.getElem?_toList]; exact hz))
      have HI1 := Lib.hid (infoSt.trans (by rw [HZ1.out]) : (Tryz.prog.info? 54).map (·.size) = some A1.size)
      obtain ⟨W1, hW1⟩ : ∃ W1, wo.alloc (Obj.cells A1 54) = W1 := ⟨_, rfl⟩
      have HW1 := Lib.hid (show Below w.heap.size w W1 by rw [← hW1]; exact hB.out.trans (((Below.refl _ wo).alloc (Nat.le_refl _) _).mono hB.out.size))
      have HWr := Lib.hid (show Below wo.heap.size wo W1 by rw [← hW1]; exact (Below.refl _ wo).alloc (Nat.le_refl _) _)
      have hws : wo.heap.size < W1.heap.size := by rw [← hW1]; simp
      have HXA := Lib.hid (fun w1 hb => cells_later (w0 := W1) (w1 := w1) (b := wo.heap.size) (A := A1) (t := 54) (by rw [← hW1]; exact heap_alloc_new wo _) hb)
      have HOW := Lib.hid (hown.out.later HWr.out)
      have HG1 := Lib.hid (HG.out.later HW1.out)
      have hsz1 : w.heap.size ≤ W1.heap.size := HW1.out.size
      go_upto_region 7 with (first | (refine wpl_load rfl 54 _ rfl b (o + k * 16) rfl A1 _ F1.out Tryz.underlying54 rfl HI1.out ?_) | (refine wpl_store_new rfl 54 _ _ rfl _ A1 _ rfl rfl (by rw [HZ1.out]; rfl) HI1.out HO1.out ?_))
      (try rw [hW1])
      obtain ⟨kd, nm, ns, e, a, g, lo, hi, bd, el⟩ := x
      have hk1 : W1.heap[wo.heap.size]? = some (.cells A1 54 (0, 0)) := by rw [← hW1]; exact heap_alloc_new wo _
      have HX := Lib.hid (fun (w' : World) (hk : w'.heap[wo.heap.size]? = some (.cells A1 54 (0, 0))) => show w'.cell? ⟨wo.heap.size, 0, none⟩ = some (.int .i64 kd) ∧ w'.cell? ⟨wo.heap.size, 1, none⟩ = some (.string (str nm)) ∧ w'.cell? ⟨wo.heap.size, 2, none⟩ = some (.slice s.pn ns.length s.cn) ∧ w'.cell? ⟨wo.heap.size, 3, none⟩ = some (.int .i64 e.op) ∧ w'.cell? ⟨wo.heap.size, 4, none⟩ = some (.int .u64 (e.word : Int)) ∧ w'.cell? ⟨wo.heap.size, 5, none⟩ = some (.string (str e.name)) ∧ w'.cell? ⟨wo.heap.size, 6, none⟩ = some (.slice s.pe e.args.len s.ce) ∧ w'.cell? ⟨wo.heap.size, 7, none⟩ = some (.int .i64 a.op) ∧ w'.cell? ⟨wo.heap.size, 8, none⟩ = some (.int .u64 (a.word : Int)) ∧ w'.cell? ⟨wo.heap.size, 9, none⟩ = some (.string (str a.name)) ∧ w'.cell? ⟨wo.heap.size, 10, none⟩ = some (.slice s.pa a.args.len s.ca) ∧ w'.cell? ⟨wo.heap.size, 11, none⟩ = some (.slice s.pg g.len s.cg) ∧ w'.cell? ⟨wo.heap.size, 12, none⟩ = some (.int .u64 (lo : Int)) ∧ w'.cell? ⟨wo.heap.size, 13, none⟩ = some (.int .u64 (hi : Int)) ∧ w'.cell? ⟨wo.heap.size, 14, none⟩ = some (.slice s.pb bd.len s.cb) ∧ w'.cell? ⟨wo.heap.size, 15, none⟩ = some (.slice s.pl el.len s.cl) from ⟨cell_block hk (by rw [← hA1]; rfl), cell_block hk (by rw [← hA1]; rfl), cell_block hk (by rw [← hA1]; rfl), cell_block hk (by rw [← hA1]; rfl), cell_block hk (by rw [← hA1]; rfl), cell_block hk (by rw [← hA1]; rfl), cell_block hk (by rw [← hA1]; rfl), cell_block hk (by rw [← hA1]; rfl), cell_block hk (by rw [← hA1]; rfl), cell_block hk (by rw [← hA1]; rfl), cell_block hk (by rw [← hA1]; rfl), cell_block hk (by rw [← hA1]; rfl), cell_block hk (by rw [← hA1]; rfl), cell_block hk (by rw [← hA1]; rfl), cell_block hk (by rw [← hA1]; rfl), cell_block hk (by rw [← hA1]; rfl)⟩)
      have HXk := Lib.hid hk1
      clear hx hr ha hat c1 F1 HZ1 HO1 HI1 HXA hA1 hW1 hown hk1
      by_cases h1 : kd = 1
      · subst h1
        have HEl := Lib.hid (show l.lines t = (ls ++ [(t, nm ++ [32, 61, 32] ++ e.text ++ [59])]) ++ r.lines t by rw [hE.out]; simp [Sts.lines, St.lines, firstT])
        have hl1 : (nm ++ [32, 61, 32] ++ e.text ++ [59]).length ≤ 1000000 := hrl.out (t, _) (by simp [Sts.lines, St.lines, firstT])
        simp only [List.length_append, List.length_cons, List.length_nil] at hl1
        have hem : e.may = true := by have := hrm.1; rw [st_may_1] at this; simp only [Bool.and_eq_true] at this; exact this.1.2
        have HEx := Lib.hid (fun (w1 : World) (hb : Below W1.heap.size W1 w1) => rExpr_any e hem (by omega) s.pe s.ce wo.heap.size w1 (ok1.2.1.later (HWr.out.trans (hb.mono (Nat.le_of_lt hws))) (Nat.le_refl _)) (Nat.le_trans (Nat.le_of_lt hws) hb.size) (HG1.out.later hb))
        unfold Ex.val at HEx
        obtain ⟨c0, c1, c2, c3, c4, c5, c6, c7, c8, c9, c10, c11, c12, c13, c14, c15⟩ := HX.out W1 HXk.out
        clear c7 c8 c9 c10 c12 c13 c14 c15
        obtain ⟨NM, hNM⟩ : ∃ A, A = str nm := ⟨_, rfl⟩
        obtain ⟨TE, hTE⟩ : ∃ A, A = str e.text := ⟨_, rfl⟩
        obtain ⟨B4, hB4⟩ : ∃ B, B = str (nm ++ [32, 61, 32]) := ⟨_, rfl⟩
        obtain ⟨B8, hB8⟩ : ∃ B, B = str (nm ++ [32, 61, 32] ++ e.text) := ⟨_, rfl⟩
        obtain ⟨B9, hB9⟩ : ∃ B, B = str (nm ++ [32, 61, 32] ++ e.text ++ [59]) := ⟨_, rfl⟩
        have q4 : ∀ w : World, (Op.stringOp .add NM ⟨#[32, 61, 32]⟩).run Tryz.prog w = .ok (.string B4) w := fun w => by rw [hNM, hB4]; exact add_str nm [32, 61, 32] (by simp only [List.length_cons, List.length_nil]; omega) w
        have q8 : ∀ w : World, (Op.stringOp .add B4 TE).run Tryz.prog w = .ok (.string B8) w := fun w => by rw [hB4, hTE, hB8]; exact add_str (nm ++ [32, 61, 32]) e.text (by simp only [List.length_append, List.length_cons, List.length_nil]; omega) w
        have q9 : ∀ w : World, (Op.stringOp .add B8 ⟨#[59]⟩).run Tryz.prog w = .ok (.string B9) w := fun w => by rw [hB8, hB9]; exact add_str (nm ++ [32, 61, 32] ++ e.text) [59] (by simp only [List.length_append, List.length_cons, List.length_nil]; omega) w
        rw [← hNM] at c1
        rw [← hTE] at HEx
        have HB9 := Lib.hid hB9
        have HNM := Lib.hid hNM
        clear hNM hTE hB4 hB8 hB9
        go_upto_region 10 with fail
        have HS : KpL w.heap.size W1 W1.drew := KpL.of_below (Below.refl _ _).drew
        have HSB : Below W1.heap.size W1 W1.drew := (Below.refl _ _).drew

        refine wp_region_held_drew (S := fun W => W.cell? ⟨wo.heap.size, 1, none⟩ = some (.string NM) ∧ W.cell? ⟨wo.heap.size, 3, none⟩ = some (.int .i64 e.op) ∧ W.cell? ⟨wo.heap.size, 4, none⟩ = some (.int .u64 (e.word : Int)) ∧ W.cell? ⟨wo.heap.size, 5, none⟩ = some (.string (str e.name)) ∧ W.cell? ⟨wo.heap.size, 6, none⟩ = some (.slice s.pe e.args.len s.ce)) (by kernel_rfl) ?_ (fun hHeld => ?_)
        · exact ⟨(HSB.cell hws).trans c1, (HSB.cell hws).trans c3, (HSB.cell hws).trans c4, (HSB.cell hws).trans c5, (HSB.cell hws).trans c6⟩
        refine wpAnyH_take (i := 0) (oi := ⟨some 38, .move (.tmp 5), 100, "ref.go:259", #[], none⟩) (v := ?_) rfl (by kernel_rfl) (by kernel_rfl) (by kernel_rfl) (fun _ _ _ h => h) (Or.inl ⟨by rfl, ?_⟩) (by assumption) ?_
        rotate_left
        · (intro w hSw; (try dsimp only at hSw); go_simp; try with_reducible rfl)
        try simp only [Act.put, List.setIfInBounds_toArray, List.set_cons_zero, List.set_cons_succ]
        refine wpAnyH_take (i := 1) (oi := ⟨some 39, .move (.tmp 1), 3, "ref.go:259", #[], none⟩) (v := ?_) rfl (by kernel_rfl) (by kernel_rfl) (by kernel_rfl) (fun _ _ _ h => h) (Or.inl ⟨by rfl, ?_⟩) (by assumption) ?_
        rotate_left
        · (intro w hSw; (try dsimp only at hSw); go_simp; try with_reducible rfl)
        try simp only [Act.put, List.setIfInBounds_toArray, List.set_cons_zero, List.set_cons_succ]
        refine wpAnyH_take (i := 2) (oi := ⟨some 40, .fieldAddr 54 (.tmp 7) 1, 0, "ref.go:259", #[], none⟩) (v := ?_) rfl (by kernel_rfl) (by kernel_rfl) (by kernel_rfl) (fun _ _ _ h => h) (Or.inl ⟨by rfl, ?_⟩) (by assumption) ?_
        rotate_left
        · (intro w hSw; (try dsimp only at hSw); go_simp; try with_reducible rfl)
        try simp only [Act.put, List.setIfInBounds_toArray, List.set_cons_zero, List.set_cons_succ]
        refine wpAnyH_take (i := 3) (oi := ⟨some 41, .load 9 (.tmp 40), 9, "ref.go:259", #[⟨2, .data⟩], none⟩) (v := ?_) rfl (by kernel_rfl) (by kernel_rfl) (by kernel_rfl) (fun _ _ _ h => h) (Or.inl ⟨by rfl, ?_⟩) (by assumption) ?_
        rotate_left
        · (intro w hSw; (try dsimp only at hSw); go_simp; try with_reducible rfl)
        try simp only [Act.put, List.setIfInBounds_toArray, List.set_cons_zero, List.set_cons_succ]
        refine wpAnyH_take (i := 4) (oi := ⟨some 42, .binOp .add 9 (.tmp 41) (.const (.string ⟨#[32, 61, 32]⟩)) 9, 9, "ref.go:259", #[⟨3, .data⟩], none⟩) (v := .string B4) rfl (by kernel_rfl) (by kernel_rfl) (by kernel_rfl) (fun _ _ _ h => h) (Or.inl ⟨by rfl, ?_⟩) (by assumption) ?_
        · (intro w hSw; (try dsimp only at hSw); go_simp)
        try simp only [Act.put, List.setIfInBounds_toArray, List.set_cons_zero, List.set_cons_succ]
        refine wpAnyH_take (i := 5) (oi := ⟨some 43, .fieldAddr 54 (.tmp 7) 3, 0, "ref.go:259", #[], none⟩) (v := ?_) rfl (by kernel_rfl) (by kernel_rfl) (by kernel_rfl) (fun _ _ _ h => h) (Or.inl ⟨by rfl, ?_⟩) (by assumption) ?_
        rotate_left
        · (intro w hSw; (try dsimp only at hSw); go_simp; try with_reducible rfl)
        try simp only [Act.put, List.setIfInBounds_toArray, List.set_cons_zero, List.set_cons_succ]
        refine wpAnyH_take (i := 6) (oi := ⟨some 44, .load 26 (.tmp 43), 26, "ref.go:259", #[⟨5, .data⟩], none⟩) (v := ?_) rfl (by kernel_rfl) (by kernel_rfl) (by kernel_rfl) (fun _ _ _ h => h) (Or.inl ⟨by rfl, ?_⟩) (by assumption) ?_
        rotate_left
        · (intro w hSw; (try dsimp only at hSw); go_simp; try with_reducible rfl)
        try simp only [Act.put, List.setIfInBounds_toArray, List.set_cons_zero, List.set_cons_succ]
        refine wpAnyH_ready (rs := [7]) (by kernel_rfl) (by simp) ?_
        refine AllReadyH.cons (o := ⟨some 45, .call { callee := .value (.func 15), args := #[.tmp 44], argTypes := #[26] }, 9, "ref.go:259", #[⟨6, .data⟩], none⟩) rfl (fun K hK => ?_) AllReadyH.nil
        go_simp
        refine (HEx.out _ HSB).mono ?_
        rintro z wa ⟨rfl, hB'⟩
        replace HSB := HSB.trans (hB'.mono HSB.size)
        clear hB'
        refine hK.out _ _ ?_ (fun hHeld => ?_)
        · exact ⟨(HSB.cell hws).trans c1, (HSB.cell hws).trans c3, (HSB.cell hws).trans c4, (HSB.cell hws).trans c5, (HSB.cell hws).trans c6⟩
        clear hK K
        try simp only [Act.put, List.setIfInBounds_toArray, List.set_cons_zero, List.set_cons_succ]
        refine wpAnyH_take (i := 8) (oi := ⟨some 46, .binOp .add 9 (.tmp 42) (.tmp 45) 9, 9, "ref.go:259", #[⟨4, .data⟩, ⟨7, .data⟩], none⟩) (v := .string B8) rfl (by kernel_rfl) (by kernel_rfl) (by kernel_rfl) (fun _ _ _ h => h) (Or.inl ⟨by rfl, ?_⟩) (by assumption) ?_
        · (intro w hSw; (try dsimp only at hSw); go_simp)
        try simp only [Act.put, List.setIfInBounds_toArray, List.set_cons_zero, List.set_cons_succ]
        refine wpAnyH_take (i := 9) (oi := ⟨some 47, .binOp .add 9 (.tmp 46) (.const (.string ⟨#[59]⟩)) 9, 9, "ref.go:259", #[⟨8, .data⟩], none⟩) (v := .string B9) rfl (by kernel_rfl) (by kernel_rfl) (by kernel_rfl) (fun _ _ _ h => h) (Or.inl ⟨by rfl, ?_⟩) (by assumption) ?_
        · (intro w hSw; (try dsimp only at hSw); go_simp)
        try simp only [Act.put, List.setIfInBounds_toArray, List.set_cons_zero, List.set_cons_succ]
        refine wpAnyH_take (i := 10) (oi := ⟨some 48, .build 104 #[(0, .tmp 39), (1, .tmp 47)], 104, "ref.go:259", #[⟨1, .data⟩, ⟨9, .data⟩], none⟩) (v := ?_) rfl (by kernel_rfl) (by kernel_rfl) (by kernel_rfl) (fun _ _ _ h => h) (Or.inl ⟨by rfl, ?_⟩) (by assumption) ?_
        rotate_left
        · (intro w hSw; (try dsimp only at hSw); go_simp; try with_reducible rfl)
        try simp only [Act.put, List.setIfInBounds_toArray, List.set_cons_zero, List.set_cons_succ]
        refine wpAnyH_ready (rs := [11]) (by kernel_rfl) (by simp) ?_
        refine AllReadyH.cons (o := ⟨some 49, .buildSlice 100 1 #[(0, .tmp 48)], 100, "ref.go:259", #[⟨10, .data⟩], none⟩) rfl (fun K hK => ?_) AllReadyH.nil
        go_simp
        replace HSB := HSB.alloc HSB.size (.cells #[.int .i64 (t : Int), .string B9] 104 (0, 0))
        refine hK.out _ _ ?_ (fun hHeld => ?_)
        · exact ⟨(HSB.cell hws).trans c1, (HSB.cell hws).trans c3, (HSB.cell hws).trans c4, (HSB.cell hws).trans c5, (HSB.cell hws).trans c6⟩
        clear hK K
        try simp only [Act.put, List.setIfInBounds_toArray, List.set_cons_zero, List.set_cons_succ]
        refine wpAnyH_ready (rs := [12]) (by kernel_rfl) (by simp) ?_
        refine AllReadyH.cons (o := ⟨some 50, .call { callee := .builtin .append, args := #[.tmp 38, .tmp 49], argTypes := #[100, 100] }, 100, "ref.go:259", #[⟨0, .data⟩, ⟨11, .data⟩, ⟨7, .chain⟩], none⟩) rfl (fun K hK => ?_) AllReadyH.nil
        refine step_line (x := (t, nm ++ [32, 61, 32] ++ e.text ++ [59])) rfl (.tmp 38) (.tmp 49) rfl (by rfl) (HOW.out.later HSB) (Nat.le_trans hsz1 HSB.size) (Nat.le_trans hlsl (by decide)) wa.heap.size (by rfl) (by simp [go_sem]) (by rw [← HB9.out]; simp [go_sem]) ?_
        rintro v' wb hR' hK'
        replace HS := (KpL.of_below HSB).trans hK'
        have hq := HX.out wb (HS.block _ _ HXk.out (.inr (stmt_notLn _)))
        refine hK.out _ _ ?_ (fun hHeld => ?_)
        · exact ⟨by rw [HNM.out]; exact hq.2.1, hq.2.2.2.1, hq.2.2.2.2.1, hq.2.2.2.2.2.1, hq.2.2.2.2.2.2.1⟩
        clear hK K
        try simp only [Act.put, List.setIfInBounds_toArray, List.set_cons_zero, List.set_cons_succ]
        refine wpAnyH_take (i := 13) (oi := ⟨some 5, .assign (.tmp 50), 100, "ref.go:259", #[⟨12, .data⟩, ⟨12, .chain⟩, ⟨0, .phase⟩, ⟨1, .phase⟩, ⟨2, .phase⟩, ⟨3, .phase⟩, ⟨4, .phase⟩, ⟨5, .phase⟩, ⟨6, .phase⟩, ⟨7, .phase⟩, ⟨8, .phase⟩, ⟨9, .phase⟩, ⟨10, .phase⟩, ⟨11, .phase⟩, ⟨12, .phase⟩], none⟩) (v := ?_) rfl (by kernel_rfl) (by kernel_rfl) (by kernel_rfl) (fun _ _ _ h => h) (Or.inl ⟨by rfl, ?_⟩) (by assumption) ?_
        rotate_left
        · (intro w hSw; (try dsimp only at hSw); go_simp; try with_reducible rfl)
        try simp only [Act.put, List.setIfInBounds_toArray, List.set_cons_zero, List.set_cons_succ]
        refine wpAnyH_done (by kernel_rfl) ?_ _
        have HO := Lib.hid hR'
        have HBz := Lib.hid (HW1.out.trans (HS.below hsz1))
        clear hq hR' hK' HS HSB q4 q8 q9 c1 c3 c4 c5 c6
        go_wp2_with fail
        go_roundw
        case rel => exact ⟨k + 1, r, ls ++ [(t, nm ++ [32, 61, 32] ++ e.text ++ [59])], by go_num, by omega, by omega, hrm.2, by omega, Lib.hid (fun y hy => hrl.out y (by simp only [Sts.lines, List.mem_append]; exact .inr hy)), by simp only [Sts.lines, St.lines, List.length_append, List.length_cons, List.length_nil] at hrc ⊢; omega, Lib.hid fun b' o' e _ => by cases e; rw [show o + (k + 1) * 16 = o + k * 16 + 16 by omega]; exact HR.out, HEl, HO, HBz⟩
        case measure => simp [intOf]; omega
      by_cases h2 : kd = 2
      · subst h2
        have HEl := Lib.hid (show l.lines t = (ls ++ [(t, nm ++ [91] ++ a.text ++ [93, 32, 61, 32] ++ e.text ++ [59])]) ++ r.lines t by rw [hE.out]; simp [Sts.lines, St.lines, firstT])
        have hl1 : (nm ++ [91] ++ a.text ++ [93, 32, 61, 32] ++ e.text ++ [59]).length ≤ 1000000 := hrl.out (t, _) (by simp [Sts.lines, St.lines, firstT])
        simp only [List.length_append, List.length_cons, List.length_nil] at hl1
        have hem : a.may = true ∧ e.may = true := by have := hrm.1; rw [st_may_2] at this; simp only [Bool.and_eq_true] at this; exact this.1.2
        have HEx := Lib.hid (fun (w1 : World) (hb : Below W1.heap.size W1 w1) => rExpr_any e hem.2 (by omega) s.pe s.ce wo.heap.size w1 (ok1.2.1.later (HWr.out.trans (hb.mono (Nat.le_of_lt hws))) (Nat.le_refl _)) (Nat.le_trans (Nat.le_of_lt hws) hb.size) (HG1.out.later hb))
        have HAx := Lib.hid (fun (w1 : World) (hb : Below W1.heap.size W1 w1) => rExpr_any a hem.1 (by omega) s.pa s.ca wo.heap.size w1 (ok1.2.2.1.later (HWr.out.trans (hb.mono (Nat.le_of_lt hws))) (Nat.le_refl _)) (Nat.le_trans (Nat.le_of_lt hws) hb.size) (HG1.out.later hb))
        unfold Ex.val at HEx HAx
        obtain ⟨c0, c1, c2, c3, c4, c5, c6, c7, c8, c9, c10, c11, c12, c13, c14, c15⟩ := HX.out W1 HXk.out
        clear c11 c12 c13 c14 c15 c2
        obtain ⟨NM, hNM⟩ : ∃ A, A = str (nm) := ⟨_, rfl⟩
        obtain ⟨TA, hTA⟩ : ∃ A, A = str (a.text) := ⟨_, rfl⟩
        obtain ⟨TE, hTE⟩ : ∃ A, A = str (e.text) := ⟨_, rfl⟩
        obtain ⟨B4, hB4⟩ : ∃ B, B = str (nm ++ ([91])) := ⟨_, rfl⟩
        obtain ⟨B8, hB8⟩ : ∃ B, B = str (nm ++ [91] ++ (a.text)) := ⟨_, rfl⟩
        obtain ⟨B9, hB9⟩ : ∃ B, B = str (nm ++ [91] ++ a.text ++ ([93, 32, 61, 32])) := ⟨_, rfl⟩
        obtain ⟨B13, hB13⟩ : ∃ B, B = str (nm ++ [91] ++ a.text ++ [93, 32, 61, 32] ++ (e.text)) := ⟨_, rfl⟩
        obtain ⟨B14, hB14⟩ : ∃ B, B = str (nm ++ [91] ++ a.text ++ [93, 32, 61, 32] ++ e.text ++ ([59])) := ⟨_, rfl⟩
        have qB4 : ∀ w : World, (Op.stringOp .add NM ⟨#[91]⟩).run Tryz.prog w = .ok (.string B4) w := fun w => by
          (try rw [hB4]); (try rw [hNM]); exact add_str (nm) ([91]) (by simp only [List.length_cons, List.length_nil]; omega) w
        have qB8 : ∀ w : World, (Op.stringOp .add B4 TA).run Tryz.prog w = .ok (.string B8) w := fun w => by
          (try rw [hB8]); (try rw [hB4]); (try rw [hTA]); exact add_str (nm ++ [91]) (a.text) (by simp only [List.length_append, List.length_cons, List.length_nil]; omega) w
        have qB9 : ∀ w : World, (Op.stringOp .add B8 ⟨#[93, 32, 61, 32]⟩).run Tryz.prog w = .ok (.string B9) w := fun w => by
          (try rw [hB9]); (try rw [hB8]); exact add_str (nm ++ [91] ++ a.text) ([93, 32, 61, 32]) (by simp only [List.length_append, List.length_cons, List.length_nil]; omega) w
        have qB13 : ∀ w : World, (Op.stringOp .add B9 TE).run Tryz.prog w = .ok (.string B13) w := fun w => by
          (try rw [hB13]); (try rw [hB9]); (try rw [hTE]); exact add_str (nm ++ [91] ++ a.text ++ [93, 32, 61, 32]) (e.text) (by simp only [List.length_append, List.length_cons, List.length_nil]; omega) w
        have qB14 : ∀ w : World, (Op.stringOp .add B13 ⟨#[59]⟩).run Tryz.prog w = .ok (.string B14) w := fun w => by
          (try rw [hB14]); (try rw [hB13]); exact add_str (nm ++ [91] ++ a.text ++ [93, 32, 61, 32] ++ e.text) ([59]) (by simp only [List.length_append, List.length_cons, List.length_nil]; omega) w
        rw [← hNM] at c1
        rw [← hTE] at HEx
        rw [← hTA] at HAx
        have HBL := Lib.hid hB14
        have HNM := Lib.hid hNM
        clear hNM hTE hTA hB4 hB8 hB9 hB13 hB14
        go_upto_region 12 with fail
        have HS : KpL w.heap.size W1 W1.drew := KpL.of_below (Below.refl _ _).drew
        have HSB : Below W1.heap.size W1 W1.drew := (Below.refl _ _).drew
        refine wp_region_held_drew (S := fun W => W.cell? ⟨wo.heap.size, 1, none⟩ = some (.string NM) ∧ W.cell? ⟨wo.heap.size, 3, none⟩ = some (.int .i64 e.op) ∧ W.cell? ⟨wo.heap.size, 4, none⟩ = some (.int .u64 (e.word : Int)) ∧ W.cell? ⟨wo.heap.size, 5, none⟩ = some (.string (str e.name)) ∧ W.cell? ⟨wo.heap.size, 6, none⟩ = some (.slice s.pe e.args.len s.ce) ∧ W.cell? ⟨wo.heap.size, 7, none⟩ = some (.int .i64 a.op) ∧ W.cell? ⟨wo.heap.size, 8, none⟩ = some (.int .u64 (a.word : Int)) ∧ W.cell? ⟨wo.heap.size, 9, none⟩ = some (.string (str a.name)) ∧ W.cell? ⟨wo.heap.size, 10, none⟩ = some (.slice s.pa a.args.len s.ca)) (by kernel_rfl) ?_ (fun hHeld => ?_)
        · exact ⟨(HSB.cell hws).trans c1, (HSB.cell hws).trans c3, (HSB.cell hws).trans c4, (HSB.cell hws).trans c5, (HSB.cell hws).trans c6, (HSB.cell hws).trans c7, (HSB.cell hws).trans c8, (HSB.cell hws).trans c9, (HSB.cell hws).trans c10⟩
        refine wpAnyH_take (i := 0) (oi := ⟨some 53, .move (.tmp 5), 100, "ref.go:262", #[], none⟩) (v := ?_) rfl (by kernel_rfl) (by kernel_rfl) (by kernel_rfl) (fun _ _ _ h => h) (Or.inl ⟨by rfl, ?_⟩) (by assumption) ?_
        rotate_left
        · (intro w hSw; (try dsimp only at hSw); go_simp; try with_reducible rfl)
        try simp only [Act.put, List.setIfInBounds_toArray, List.set_cons_zero, List.set_cons_succ]
        refine wpAnyH_take (i := 1) (oi := ⟨some 54, .move (.tmp 1), 3, "ref.go:262", #[], none⟩) (v := ?_) rfl (by kernel_rfl) (by kernel_rfl) (by kernel_rfl) (fun _ _ _ h => h) (Or.inl ⟨by rfl, ?_⟩) (by assumption) ?_
        rotate_left
        · (intro w hSw; (try dsimp only at hSw); go_simp; try with_reducible rfl)
        try simp only [Act.put, List.setIfInBounds_toArray, List.set_cons_zero, List.set_cons_succ]
        refine wpAnyH_take (i := 2) (oi := ⟨some 55, .fieldAddr 54 (.tmp 7) 1, 0, "ref.go:262", #[], none⟩) (v := ?_) rfl (by kernel_rfl) (by kernel_rfl) (by kernel_rfl) (fun _ _ _ h => h) (Or.inl ⟨by rfl, ?_⟩) (by assumption) ?_
        rotate_left
        · (intro w hSw; (try dsimp only at hSw); go_simp; try with_reducible rfl)
        try simp only [Act.put, List.setIfInBounds_toArray, List.set_cons_zero, List.set_cons_succ]
        refine wpAnyH_take (i := 3) (oi := ⟨some 56, .load 9 (.tmp 55), 9, "ref.go:262", #[⟨2, .data⟩], none⟩) (v := ?_) rfl (by kernel_rfl) (by kernel_rfl) (by kernel_rfl) (fun _ _ _ h => h) (Or.inl ⟨by rfl, ?_⟩) (by assumption) ?_
        rotate_left
        · (intro w hSw; (try dsimp only at hSw); go_simp; try with_reducible rfl)
        try simp only [Act.put, List.setIfInBounds_toArray, List.set_cons_zero, List.set_cons_succ]
        refine wpAnyH_take (i := 4) (oi := ⟨some 57, .binOp .add 9 (.tmp 56) (.const (.string ⟨#[91]⟩)) 9, 9, "ref.go:262", #[⟨3, .data⟩], none⟩) (v := .string B4) rfl (by kernel_rfl) (by kernel_rfl) (by kernel_rfl) (fun _ _ _ h => h) (Or.inl ⟨by rfl, ?_⟩) (by assumption) ?_
        · (intro w hSw; (try dsimp only at hSw); go_simp)
        try simp only [Act.put, List.setIfInBounds_toArray, List.set_cons_zero, List.set_cons_succ]
        refine wpAnyH_take (i := 5) (oi := ⟨some 58, .fieldAddr 54 (.tmp 7) 4, 0, "ref.go:262", #[], none⟩) (v := ?_) rfl (by kernel_rfl) (by kernel_rfl) (by kernel_rfl) (fun _ _ _ h => h) (Or.inl ⟨by rfl, ?_⟩) (by assumption) ?_
        rotate_left
        · (intro w hSw; (try dsimp only at hSw); go_simp; try with_reducible rfl)
        try simp only [Act.put, List.setIfInBounds_toArray, List.set_cons_zero, List.set_cons_succ]
        refine wpAnyH_take (i := 6) (oi := ⟨some 59, .load 26 (.tmp 58), 26, "ref.go:262", #[⟨5, .data⟩], none⟩) (v := ?_) rfl (by kernel_rfl) (by kernel_rfl) (by kernel_rfl) (fun _ _ _ h => h) (Or.inl ⟨by rfl, ?_⟩) (by assumption) ?_
        rotate_left
        · (intro w hSw; (try dsimp only at hSw); go_simp; try with_reducible rfl)
        try simp only [Act.put, List.setIfInBounds_toArray, List.set_cons_zero, List.set_cons_succ]
        refine wpAnyH_take (i := 10) (oi := ⟨some 63, .fieldAddr 54 (.tmp 7) 3, 0, "ref.go:262", #[], none⟩) (v := ?_) rfl (by kernel_rfl) (by kernel_rfl) (by kernel_rfl) (fun _ _ _ h => h) (Or.inl ⟨by rfl, ?_⟩) (by assumption) ?_
        rotate_left
        · (intro w hSw; (try dsimp only at hSw); go_simp; try with_reducible rfl)
        try simp only [Act.put, List.setIfInBounds_toArray, List.set_cons_zero, List.set_cons_succ]
        refine wpAnyH_take (i := 11) (oi := ⟨some 64, .load 26 (.tmp 63), 26, "ref.go:262", #[⟨10, .data⟩], none⟩) (v := ?_) rfl (by kernel_rfl) (by kernel_rfl) (by kernel_rfl) (fun _ _ _ h => h) (Or.inl ⟨by rfl, ?_⟩) (by assumption) ?_
        rotate_left
        · (intro w hSw; (try dsimp only at hSw); go_simp; try with_reducible rfl)
        try simp only [Act.put, List.setIfInBounds_toArray, List.set_cons_zero, List.set_cons_succ]
        refine wpAnyH_ready (rs := [7]) (by kernel_rfl) (by simp) ?_
        refine AllReadyH.cons (o := ⟨some 60, .call { callee := .value (.func 15), args := #[.tmp 59], argTypes := #[26] }, 9, "ref.go:262", #[⟨6, .data⟩], none⟩) rfl (fun K hK => ?_) AllReadyH.nil
        go_simp
        refine (HAx.out _ HSB).mono ?_
        rintro z wa ⟨rfl, hB'⟩
        replace HSB := HSB.trans (hB'.mono HSB.size)
        clear hB'
        refine hK.out _ _ ?_ (fun hHeld => ?_)
        · exact ⟨(HSB.cell hws).trans c1, (HSB.cell hws).trans c3, (HSB.cell hws).trans c4, (HSB.cell hws).trans c5, (HSB.cell hws).trans c6, (HSB.cell hws).trans c7, (HSB.cell hws).trans c8, (HSB.cell hws).trans c9, (HSB.cell hws).trans c10⟩
        clear hK K
        try simp only [Act.put, List.setIfInBounds_toArray, List.set_cons_zero, List.set_cons_succ]
        refine wpAnyH_take (i := 8) (oi := ⟨some 61, .binOp .add 9 (.tmp 57) (.tmp 60) 9, 9, "ref.go:262", #[⟨4, .data⟩, ⟨7, .data⟩], none⟩) (v := .string B8) rfl (by kernel_rfl) (by kernel_rfl) (by kernel_rfl) (fun _ _ _ h => h) (Or.inl ⟨by rfl, ?_⟩) (by assumption) ?_
        · (intro w hSw; (try dsimp only at hSw); go_simp)
        try simp only [Act.put, List.setIfInBounds_toArray, List.set_cons_zero, List.set_cons_succ]
        refine wpAnyH_take (i := 9) (oi := ⟨some 62, .binOp .add 9 (.tmp 61) (.const (.string ⟨#[93, 32, 61, 32]⟩)) 9, 9, "ref.go:262", #[⟨8, .data⟩], none⟩) (v := .string B9) rfl (by kernel_rfl) (by kernel_rfl) (by kernel_rfl) (fun _ _ _ h => h) (Or.inl ⟨by rfl, ?_⟩) (by assumption) ?_
        · (intro w hSw; (try dsimp only at hSw); go_simp)
        try simp only [Act.put, List.setIfInBounds_toArray, List.set_cons_zero, List.set_cons_succ]
        refine wpAnyH_ready (rs := [12]) (by kernel_rfl) (by simp) ?_
        refine AllReadyH.cons (o := ⟨some 65, .call { callee := .value (.func 15), args := #[.tmp 64], argTypes := #[26] }, 9, "ref.go:262", #[⟨11, .data⟩, ⟨7, .chain⟩], none⟩) rfl (fun K hK => ?_) AllReadyH.nil
        go_simp
        refine (HEx.out _ HSB).mono ?_
        rintro z wb ⟨rfl, hB'⟩
        replace HSB := HSB.trans (hB'.mono HSB.size)
        clear hB'
        refine hK.out _ _ ?_ (fun hHeld => ?_)
        · exact ⟨(HSB.cell hws).trans c1, (HSB.cell hws).trans c3, (HSB.cell hws).trans c4, (HSB.cell hws).trans c5, (HSB.cell hws).trans c6, (HSB.cell hws).trans c7, (HSB.cell hws).trans c8, (HSB.cell hws).trans c9, (HSB.cell hws).trans c10⟩
        clear hK K
        try simp only [Act.put, List.setIfInBounds_toArray, List.set_cons_zero, List.set_cons_succ]
        refine wpAnyH_take (i := 13) (oi := ⟨some 66, .binOp .add 9 (.tmp 62) (.tmp 65) 9, 9, "ref.go:262", #[⟨9, .data⟩, ⟨12, .data⟩], none⟩) (v := .string B13) rfl (by kernel_rfl) (by kernel_rfl) (by kernel_rfl) (fun _ _ _ h => h) (Or.inl ⟨by rfl, ?_⟩) (by assumption) ?_
        · (intro w hSw; (try dsimp only at hSw); go_simp)
        try simp only [Act.put, List.setIfInBounds_toArray, List.set_cons_zero, List.set_cons_succ]
        refine wpAnyH_take (i := 14) (oi := ⟨some 67, .binOp .add 9 (.tmp 66) (.const (.string ⟨#[59]⟩)) 9, 9, "ref.go:262", #[⟨13, .data⟩], none⟩) (v := .string B14) rfl (by kernel_rfl) (by kernel_rfl) (by kernel_rfl) (fun _ _ _ h => h) (Or.inl ⟨by rfl, ?_⟩) (by assumption) ?_
        · (intro w hSw; (try dsimp only at hSw); go_simp)
        try simp only [Act.put, List.setIfInBounds_toArray, List.set_cons_zero, List.set_cons_succ]
        refine wpAnyH_take (i := 15) (oi := ⟨some 68, .build 104 #[(0, .tmp 54), (1, .tmp 67)], 104, "ref.go:262", #[⟨1, .data⟩, ⟨14, .data⟩], none⟩) (v := ?_) rfl (by kernel_rfl) (by kernel_rfl) (by kernel_rfl) (fun _ _ _ h => h) (Or.inl ⟨by rfl, ?_⟩) (by assumption) ?_
        rotate_left
        · (intro w hSw; (try dsimp only at hSw); go_simp; try with_reducible rfl)
        try simp only [Act.put, List.setIfInBounds_toArray, List.set_cons_zero, List.set_cons_succ]
        refine wpAnyH_ready (rs := [16]) (by kernel_rfl) (by simp) ?_
        refine AllReadyH.cons (o := ⟨some 69, .buildSlice 100 1 #[(0, .tmp 68)], 100, "ref.go:262", #[⟨15, .data⟩], none⟩) rfl (fun K hK => ?_) AllReadyH.nil
        go_simp
        replace HSB := HSB.alloc HSB.size (.cells #[.int .i64 (t : Int), .string B14] 104 (0, 0))
        refine hK.out _ _ ?_ (fun hHeld => ?_)
        · exact ⟨(HSB.cell hws).trans c1, (HSB.cell hws).trans c3, (HSB.cell hws).trans c4, (HSB.cell hws).trans c5, (HSB.cell hws).trans c6, (HSB.cell hws).trans c7, (HSB.cell hws).trans c8, (HSB.cell hws).trans c9, (HSB.cell hws).trans c10⟩
        clear hK K
        try simp only [Act.put, List.setIfInBounds_toArray, List.set_cons_zero, List.set_cons_succ]
        refine wpAnyH_ready (rs := [17]) (by kernel_rfl) (by simp) ?_
        refine AllReadyH.cons (o := ⟨some 70, .call { callee := .builtin .append, args := #[.tmp 53, .tmp 69], argTypes := #[100, 100] }, 100, "ref.go:262", #[⟨0, .data⟩, ⟨16, .data⟩, ⟨12, .chain⟩], none⟩) rfl (fun K hK => ?_) AllReadyH.nil
        refine step_line (x := (t, nm ++ [91] ++ a.text ++ [93, 32, 61, 32] ++ e.text ++ [59])) rfl (.tmp 53) (.tmp 69) rfl (by rfl) (HOW.out.later HSB) (Nat.le_trans hsz1 HSB.size) (Nat.le_trans hlsl (by decide)) wb.heap.size (by rfl) (by simp [go_sem]) (by rw [← HBL.out]; simp [go_sem]) ?_
        rintro v' wc hR' hK'
        replace HS := (KpL.of_below HSB).trans hK'
        have hq := HX.out wc (HS.block _ _ HXk.out (.inr (stmt_notLn _)))
        refine hK.out _ _ ?_ (fun hHeld => ?_)
        · exact ⟨by rw [HNM.out]; exact hq.2.1, hq.2.2.2.1, hq.2.2.2.2.1, hq.2.2.2.2.2.1, hq.2.2.2.2.2.2.1, hq.2.2.2.2.2.2.2.1, hq.2.2.2.2.2.2.2.2.1, hq.2.2.2.2.2.2.2.2.2.1, hq.2.2.2.2.2.2.2.2.2.2.1⟩
        clear hK K
        try simp only [Act.put, List.setIfInBounds_toArray, List.set_cons_zero, List.set_cons_succ]
        refine wpAnyH_take (i := 18) (oi := ⟨some 5, .assign (.tmp 70), 100, "ref.go:262", #[⟨17, .data⟩, ⟨17, .chain⟩, ⟨0, .phase⟩, ⟨1, .phase⟩, ⟨2, .phase⟩, ⟨3, .phase⟩, ⟨4, .phase⟩, ⟨5, .phase⟩, ⟨6, .phase⟩, ⟨7, .phase⟩, ⟨8, .phase⟩, ⟨9, .phase⟩, ⟨10, .phase⟩, ⟨11, .phase⟩, ⟨12, .phase⟩, ⟨13, .phase⟩, ⟨14, .phase⟩, ⟨15, .phase⟩, ⟨16, .phase⟩, ⟨17, .phase⟩], none⟩) (v := ?_) rfl (by kernel_rfl) (by kernel_rfl) (by kernel_rfl) (fun _ _ _ h => h) (Or.inl ⟨by rfl, ?_⟩) (by assumption) ?_
        rotate_left
        · (intro w hSw; (try dsimp only at hSw); go_simp; try with_reducible rfl)
        try simp only [Act.put, List.setIfInBounds_toArray, List.set_cons_zero, List.set_cons_succ]
        refine wpAnyH_done (by kernel_rfl) ?_ _
        have HO := Lib.hid hR'
        have HBz := Lib.hid (HW1.out.trans (HS.below hsz1))
        clear hq hR' hK' HS HSB qB4 qB8 qB9 qB13 qB14 c0 c1 c3 c4 c5 c6 c7 c8 c9 c10
        go_wp2_with fail
        go_roundw
        case rel => exact ⟨k + 1, r, ls ++ [(t, nm ++ [91] ++ a.text ++ [93, 32, 61, 32] ++ e.text ++ [59])], by go_num, by omega, by omega, hrm.2, by omega, Lib.hid (fun y hy => hrl.out y (by simp only [Sts.lines, List.mem_append]; exact .inr hy)), by simp only [Sts.lines, St.lines, List.length_append, List.length_cons, List.length_nil] at hrc ⊢; omega, Lib.hid fun b' o' e _ => by cases e; rw [show o + (k + 1) * 16 = o + k * 16 + 16 by omega]; exact HR.out, HEl, HO, HBz⟩
        case measure => simp [intOf]; omega
      by_cases h6 : kd = 6
      · subst h6
        have hm6 := hrm.1
        rw [st_may_6] at hm6
        simp only [Bool.and_eq_true] at hm6
        have hgm : g.may = true := hm6.1.2.2
        have HEl0 : l.lines t = (ls ++ [(t, firstT 6 nm ns e.text a.text g.texts lo hi)]) ++ r.lines t := by rw [hE.out]; simp [Sts.lines, St.lines]
        have hl1 : (firstT 6 nm ns e.text a.text g.texts lo hi).length ≤ 1000000 := hrl.out (t, _) (by simp only [Sts.lines, St.lines]; exact List.mem_append_left _ List.mem_cons_self)
        obtain ⟨JT, hJT⟩ : ∃ J, J = Lib.join g.texts [44, 32] := ⟨_, rfl⟩
        have hfT : firstT 6 nm ns e.text a.text g.texts lo hi = if ns.length = 0 then nm ++ [40] ++ JT ++ [41, 59] else (Lib.join ns [44, 32] ++ [32, 61, 32]) ++ (nm ++ [40] ++ JT ++ [41, 59]) := by rw [hJT]; simp [firstT]
        rw [hfT] at HEl0 hl1
        have hjl : JT.length + 3 + nm.length ≤ 1000000 := by split at hl1 <;> simp only [List.length_append, List.length_cons, List.length_nil] at hl1 <;> omega
        have hsum := join_sum g.texts
        rw [← hJT] at hsum
        have hgl := hsum.2
        rw [Exs.texts_len] at hgl
        have hgs : sumL g.texts ≤ 1000000 := by omega
        have HAr := Lib.hid (fun (w1 : World) (hb : Below W1.heap.size W1 w1) => rargsT_any g hgm (by omega) (by omega) s.pg s.cg wo.heap.size w1 (Nat.le_trans (Nat.le_of_lt hws) hb.size) (ok1.2.2.2.1.later (HWr.out.trans (hb.mono (Nat.le_of_lt hws))) (Nat.le_refl _)) (HG1.out.later hb))
        have HNs := Lib.hid (fun (w1 : World) (hb : Below W1.heap.size W1 w1) (hj : (Lib.join ns [44, 32]).length ≤ 1000000) => rlist_any ns s.pn s.cn wo.heap.size w1 (ok1.1.2.imp (Nat.le_refl _) (StrAt.later (HWr.out.trans (hb.mono (Nat.le_of_lt hws))))) hj)
        have HLj := Lib.hid (fun (q : Option Addr) (d : Nat) (w1 : World) (h : RowIn w1.heap.size (StrAt w1) 1 g.texts q) => rlist_any g.texts q d w1.heap.size w1 h (by rw [← hJT]; omega))
        rw [← hJT] at HLj
        obtain ⟨c0, c1, c2, c3, c4, c5, c6, c7, c8, c9, c10, c11, c12, c13, c14, c15⟩ := HX.out W1 HXk.out
        clear c3 c4 c5 c6 c7 c8 c9 c10 c12 c13 c14 c15 hsum hgl hgs hJT hfT
        obtain ⟨NM, hNM⟩ : ∃ A, A = str (nm) := ⟨_, rfl⟩
        obtain ⟨TJ, hTJ⟩ : ∃ A, A = str (JT) := ⟨_, rfl⟩
        obtain ⟨B2, hB2⟩ : ∃ B, B = str (nm ++ ([40])) := ⟨_, rfl⟩
        obtain ⟨B7, hB7⟩ : ∃ B, B = str (nm ++ [40] ++ (JT)) := ⟨_, rfl⟩
        obtain ⟨B8, hB8⟩ : ∃ B, B = str (nm ++ [40] ++ JT ++ ([41, 59])) := ⟨_, rfl⟩
        have qB2 : ∀ w : World, (Op.stringOp .add NM ⟨#[40]⟩).run Tryz.prog w = .ok (.string B2) w := fun w => by
          (try rw [hB2]); (try rw [hNM]); exact add_str (nm) ([40]) (by simp only [List.length_cons, List.length_nil]; omega) w
        have qB7 : ∀ w : World, (Op.stringOp .add B2 TJ).run Tryz.prog w = .ok (.string B7) w := fun w => by
          (try rw [hB7]); (try rw [hB2]); (try rw [hTJ]); exact add_str (nm ++ [40]) (JT) (by simp only [List.length_append, List.length_cons, List.length_nil]; omega) w
        have qB8 : ∀ w : World, (Op.stringOp .add B7 ⟨#[41, 59]⟩).run Tryz.prog w = .ok (.string B8) w := fun w => by
          (try rw [hB8]); (try rw [hB7]); exact add_str (nm ++ [40] ++ JT) ([41, 59]) (by simp only [List.length_append, List.length_cons, List.length_nil]; omega) w
        rw [← hNM] at c1
        rw [← hTJ] at HLj
        have HBL := Lib.hid hB8
        have HNM := Lib.hid hNM
        clear hNM hTJ hB2 hB7 hB8
        go_upto_region 14 with fail
        have HSB : Below W1.heap.size W1 W1.drew := (Below.refl _ _).drew
        refine wp_region_held_drew (S := fun W => W.cell? ⟨wo.heap.size, 1, none⟩ = some (.string NM) ∧ W.cell? ⟨wo.heap.size, 11, none⟩ = some (.slice s.pg g.len s.cg)) (by kernel_rfl) ?_ (fun hHeld => ?_)
        · exact ⟨(HSB.cell hws).trans c1, (HSB.cell hws).trans c11⟩
        refine wpAnyH_take (i := 0) (oi := ⟨some 73, .fieldAddr 54 (.tmp 7) 1, 0, "ref.go:265", #[], none⟩) (v := ?_) rfl (by kernel_rfl) (by kernel_rfl) (by kernel_rfl) (fun _ _ _ h => h) (Or.inl ⟨by rfl, ?_⟩) (by assumption) ?_
        rotate_left
        · (intro w hSw; (try dsimp only at hSw); go_simp; try with_reducible rfl)
        try simp only [Act.put, List.setIfInBounds_toArray, List.set_cons_zero, List.set_cons_succ]
        refine wpAnyH_take (i := 1) (oi := ⟨some 74, .load 9 (.tmp 73), 9, "ref.go:265", #[⟨0, .data⟩], none⟩) (v := ?_) rfl (by kernel_rfl) (by kernel_rfl) (by kernel_rfl) (fun _ _ _ h => h) (Or.inl ⟨by rfl, ?_⟩) (by assumption) ?_
        rotate_left
        · (intro w hSw; (try dsimp only at hSw); go_simp; try with_reducible rfl)
        try simp only [Act.put, List.setIfInBounds_toArray, List.set_cons_zero, List.set_cons_succ]
        refine wpAnyH_take (i := 2) (oi := ⟨some 75, .binOp .add 9 (.tmp 74) (.const (.string ⟨#[40]⟩)) 9, 9, "ref.go:265", #[⟨1, .data⟩], none⟩) (v := .string B2) rfl (by kernel_rfl) (by kernel_rfl) (by kernel_rfl) (fun _ _ _ h => h) (Or.inl ⟨by rfl, ?_⟩) (by assumption) ?_
        · (intro w hSw; (try dsimp only at hSw); go_simp)
        try simp only [Act.put, List.setIfInBounds_toArray, List.set_cons_zero, List.set_cons_succ]
        refine wpAnyH_take (i := 3) (oi := ⟨some 76, .fieldAddr 54 (.tmp 7) 5, 0, "ref.go:265", #[], none⟩) (v := ?_) rfl (by kernel_rfl) (by kernel_rfl) (by kernel_rfl) (fun _ _ _ h => h) (Or.inl ⟨by rfl, ?_⟩) (by assumption) ?_
        rotate_left
        · (intro w hSw; (try dsimp only at hSw); go_simp; try with_reducible rfl)
        try simp only [Act.put, List.setIfInBounds_toArray, List.set_cons_zero, List.set_cons_succ]
        refine wpAnyH_take (i := 4) (oi := ⟨some 77, .load 24 (.tmp 76), 24, "ref.go:265", #[⟨3, .data⟩], none⟩) (v := ?_) rfl (by kernel_rfl) (by kernel_rfl) (by kernel_rfl) (fun _ _ _ h => h) (Or.inl ⟨by rfl, ?_⟩) (by assumption) ?_
        rotate_left
        · (intro w hSw; (try dsimp only at hSw); go_simp; try with_reducible rfl)
        try simp only [Act.put, List.setIfInBounds_toArray, List.set_cons_zero, List.set_cons_succ]
        refine wpAnyH_ready (rs := [5]) (by kernel_rfl) (by simp) ?_
        refine AllReadyH.cons (o := ⟨some 78, .call { callee := .value (.func 102), args := #[.tmp 77], argTypes := #[24] }, 46, "ref.go:265", #[⟨4, .data⟩], none⟩) rfl (fun K hK => ?_) AllReadyH.nil
        go_simp
        refine (HAr.out _ HSB).mono ?_
        rintro z wa ⟨⟨q, d, rfl, hrow⟩, hB'⟩
        replace HSB := HSB.trans (hB'.mono HSB.size)
        clear hB'
        refine hK.out _ _ ?_ (fun hHeld => ?_)
        · exact ⟨(HSB.cell hws).trans c1, (HSB.cell hws).trans c11⟩
        clear hK K
        try simp only [Act.put, List.setIfInBounds_toArray, List.set_cons_zero, List.set_cons_succ]
        refine wpAnyH_ready (rs := [6]) (by kernel_rfl) (by simp) ?_
        refine AllReadyH.cons (o := ⟨some 79, .call { callee := .value (.func 58), args := #[.tmp 78], argTypes := #[46] }, 9, "ref.go:265", #[⟨5, .data⟩, ⟨5, .chain⟩], none⟩) rfl (fun K hK => ?_) AllReadyH.nil
        go_simp
        refine (HLj.out q d _ hrow).mono ?_
        rintro z wb ⟨rfl, rfl⟩
        refine hK.out _ _ ?_ (fun hHeld => ?_)
        · exact ⟨(HSB.cell hws).trans c1, (HSB.cell hws).trans c11⟩
        clear hK K
        try simp only [Act.put, List.setIfInBounds_toArray, List.set_cons_zero, List.set_cons_succ]
        refine wpAnyH_take (i := 7) (oi := ⟨some 80, .binOp .add 9 (.tmp 75) (.tmp 79) 9, 9, "ref.go:265", #[⟨2, .data⟩, ⟨6, .data⟩], none⟩) (v := .string B7) rfl (by kernel_rfl) (by kernel_rfl) (by kernel_rfl) (fun _ _ _ h => h) (Or.inl ⟨by rfl, ?_⟩) (by assumption) ?_
        · (intro w hSw; (try dsimp only at hSw); go_simp)
        try simp only [Act.put, List.setIfInBounds_toArray, List.set_cons_zero, List.set_cons_succ]
        refine wpAnyH_take (i := 8) (oi := ⟨some 81, .binOp .add 9 (.tmp 80) (.const (.string ⟨#[41, 59]⟩)) 9, 9, "ref.go:265", #[⟨7, .data⟩], none⟩) (v := .string B8) rfl (by kernel_rfl) (by kernel_rfl) (by kernel_rfl) (fun _ _ _ h => h) (Or.inl ⟨by rfl, ?_⟩) (by assumption) ?_
        · (intro w hSw; (try dsimp only at hSw); go_simp)
        try simp only [Act.put, List.setIfInBounds_toArray, List.set_cons_zero, List.set_cons_succ]
        refine wpAnyH_take (i := 9) (oi := ⟨some 9, .assign (.tmp 81), 9, "ref.go:265", #[⟨8, .data⟩, ⟨6, .chain⟩, ⟨0, .phase⟩, ⟨1, .phase⟩, ⟨2, .phase⟩, ⟨3, .phase⟩, ⟨4, .phase⟩, ⟨5, .phase⟩, ⟨6, .phase⟩, ⟨7, .phase⟩, ⟨8, .phase⟩], none⟩) (v := ?_) rfl (by kernel_rfl) (by kernel_rfl) (by kernel_rfl) (fun _ _ _ h => h) (Or.inl ⟨by rfl, ?_⟩) (by assumption) ?_
        rotate_left
        · (intro w hSw; (try dsimp only at hSw); go_simp; try with_reducible rfl)
        try simp only [Act.put, List.setIfInBounds_toArray, List.set_cons_zero, List.set_cons_succ]
        refine wpAnyH_done (by kernel_rfl) ?_ _
        have d2 : wa.cell? ⟨wo.heap.size, 2, none⟩ = some (.slice s.pn ns.length s.cn) := (HSB.cell hws).trans c2
        have HBz := Lib.hid (HW1.out.trans (HSB.mono hsz1))
        have HOz := Lib.hid ((HOW.out.later HSB))
        have HS := Lib.hid HSB
        clear HSB qB2 qB7 qB8 c0 c1 c2 c11 hrow HAr HLj
        have hwz : w.heap.size ≤ wa.heap.size := HBz.out.size
        by_cases hn0 : ns.length = 0
        · rw [if_pos hn0] at HEl0
          have HEl := Lib.hid HEl0
          rw [hn0] at d2
          clear HEl0 HNs
          go_upto_region 17 with fail
          go_wp2_with (at_builtin; refine wpList_line (x := (t, nm ++ [40] ++ JT ++ [41, 59])) rfl _ _ rfl rfl (HOz.out.later ((Below.refl _ wa).alloc (Nat.le_refl _) _)) (by simp; omega) (Nat.le_trans hlsl (by decide)) wa.heap.size rfl ?ca1 ?cb1 ?_)
          try (case ca1 => simp [go_sem])
          try (case cb1 => first | (rw [← HBL.out]; simp [go_sem]; done) | (rw [HBL.out]; simp; done) | (simp [go_sem]; rw [HBL.out]; done))
          intro v' wd hR' hK'
          have HO := Lib.hid (show LnRow w.heap.size wd (ls ++ [(t, nm ++ [40] ++ JT ++ [41, 59])]) v' by simpa using hR')
          have HBe := Lib.hid ((HBz.out.alloc hwz (.cells #[.int .i64 (t : Int), .string B8] 104)).trans (hK'.below (by simp; omega)))
          clear hR' hK'
          go_wp2_with fail
          go_roundw
          case rel => exact ⟨k + 1, r, ls ++ [(t, nm ++ [40] ++ JT ++ [41, 59])], by go_num, by omega, by omega, hrm.2, by omega, Lib.hid (fun y hy => hrl.out y (by simp only [Sts.lines, List.mem_append]; exact .inr hy)), by simp only [Sts.lines, St.lines, List.length_append, List.length_cons, List.length_nil] at hrc ⊢; omega, Lib.hid fun b' o' e _ => by cases e; rw [show o + (k + 1) * 16 = o + k * 16 + 16 by omega]; exact HR.out, HEl, HO, HBe⟩
          case measure => simp [intOf]; omega
        · rw [if_neg hn0] at HEl0 hl1
          have HEl := Lib.hid HEl0
          simp only [List.length_append, List.length_cons, List.length_nil] at hl1
          have HNl := Lib.hid (HNs.out wa HS.out (by omega))
          obtain ⟨JN, hJN⟩ : ∃ J, J = Lib.join ns [44, 32] := ⟨_, rfl⟩
          rw [← hJN] at HEl HNl hl1
          have hp1 : (0 : Int) < (ns.length : Int) := by omega
          have hp2 : 0 < ns.length := by omega
          clear HEl0 HNs hJN
          obtain ⟨TN, hTN⟩ : ∃ A, A = str (JN) := ⟨_, rfl⟩
          obtain ⟨TF, hTF⟩ : ∃ A, A = str (nm ++ [40] ++ JT ++ [41, 59]) := ⟨_, rfl⟩
          have hTFB : TF = B8 := by rw [hTF, HBL.out]
          obtain ⟨D1, hD1⟩ : ∃ B, B = str (JN ++ ([32, 61, 32])) := ⟨_, rfl⟩
          obtain ⟨D2, hD2⟩ : ∃ B, B = str (JN ++ [32, 61, 32] ++ (nm ++ [40] ++ JT ++ [41, 59])) := ⟨_, rfl⟩
          have qD1 : ∀ w : World, (Op.stringOp .add TN ⟨#[32, 61, 32]⟩).run Tryz.prog w = .ok (.string D1) w := fun w => by
            (try rw [hD1]); (try rw [hTN]); exact add_str (JN) ([32, 61, 32]) (by simp only [List.length_cons, List.length_nil]; omega) w
          have qD2 : ∀ w : World, (Op.stringOp .add D1 TF).run Tryz.prog w = .ok (.string D2) w := fun w => by
            (try rw [hD2]); (try rw [hD1]); (try rw [hTF]); exact add_str (JN ++ [32, 61, 32]) (nm ++ [40] ++ JT ++ [41, 59]) (by simp only [List.length_append, List.length_cons, List.length_nil]; omega) w
          rw [hTFB] at qD2
          rw [← hTN] at HNl
          have HDL := Lib.hid hD2
          clear hTN hTF hTFB hD1 hD2
          go_wp2_with fail
          refine HNl.out.mono ?_
          rintro z wb ⟨rfl, rfl⟩
          go_upto_region 17 with fail
          go_wp2_with (at_builtin; refine wpList_line (x := (t, (JN ++ [32, 61, 32]) ++ (nm ++ [40] ++ JT ++ [41, 59]))) rfl _ _ rfl rfl (HOz.out.later ((Below.refl _ wa).alloc (Nat.le_refl _) _)) (by simp; omega) (Nat.le_trans hlsl (by decide)) wa.heap.size rfl ?ca2 ?cb2 ?_)
          try (case ca2 => simp [go_sem])
          try (case cb2 => first | (rw [← HDL.out]; simp [go_sem]; done) | (rw [HDL.out]; simp; done) | (simp [go_sem]; rw [HDL.out]; done))
          intro v' wd hR' hK'
          have HO := Lib.hid (show LnRow w.heap.size wd (ls ++ [(t, (JN ++ [32, 61, 32]) ++ (nm ++ [40] ++ JT ++ [41, 59]))]) v' by simpa using hR')
          have HBe := Lib.hid ((HBz.out.alloc hwz (.cells #[.int .i64 (t : Int), .string D2] 104)).trans (hK'.below (by simp; omega)))
          clear hR' hK'
          go_wp2_with fail
          go_roundw
          case rel => exact ⟨k + 1, r, ls ++ [(t, (JN ++ [32, 61, 32]) ++ (nm ++ [40] ++ JT ++ [41, 59]))], by go_num, by omega, by omega, hrm.2, by omega, Lib.hid (fun y hy => hrl.out y (by simp only [Sts.lines, List.mem_append]; exact .inr hy)), by simp only [Sts.lines, St.lines, List.length_append, List.length_cons, List.length_nil] at hrc ⊢; omega, Lib.hid fun b' o' e _ => by cases e; rw [show o + (k + 1) * 16 = o + k * 16 + 16 by omega]; exact HR.out, HEl, HO, HBe⟩
          case measure => simp [intOf]; omega
      have h345 : kd = 3 ∨ kd = 4 ∨ kd = 5 := by
        by_cases hlo : kd < 1 ∨ 6 < kd
        · have := hrm.1; rw [st_may_no kd hlo] at this; cases this
        · omega
      have hbm : bd.may = true := by
        have := hrm.1
        rcases h345 with rfl | rfl | rfl
        · rw [st_may_3] at this; simp only [Bool.and_eq_true] at this; exact this.1.2.1
        · rw [st_may_4] at this; simp only [Bool.and_eq_true] at this; exact this.1.2
        · rw [st_may_5] at this; simp only [Bool.and_eq_true] at this; exact this.1.2
      have hem : el.may = true := by
        have := hrm.1
        rcases h345 with rfl | rfl | rfl
        · rw [st_may_3] at this; simp only [Bool.and_eq_true] at this; exact this.1.2.2
        · rw [st_may_4] at this; simp only [Bool.and_eq_true, St.isZero, decide_eq_true_eq] at this; exact stsNil_may this.2.2.2.2.2.2.2.2.2.2
        · rw [st_may_5] at this; simp only [Bool.and_eq_true, St.isZero, decide_eq_true_eq] at this; exact stsNil_may this.2.2.2.2.2.2.2.2.2.2
      have hel : kd ≠ 5 → e.may = true := by
        have := hrm.1
        rcases h345 with rfl | rfl | rfl
        · rw [st_may_3] at this; simp only [Bool.and_eq_true] at this; exact fun _ => this.1.1
        · rw [st_may_4] at this; simp only [Bool.and_eq_true] at this; exact fun _ => this.1.1
        · exact fun h => absurd rfl h
      simp only [St.deep] at hrd
      simp only [St.size] at hrs
      have HEl0 : l.lines t = ls ++ ((t, firstT kd nm ns e.text a.text g.texts lo hi) :: (bd.lines (t + 1) ++ ((if el.len = 0 then [] else (t, elseT) :: el.lines (t + 1)) ++ [(t, [125])]))) ++ r.lines t := by
        rw [hE.out]; simp only [Sts.lines, St.lines]; rw [if_pos h345]; simp only [List.append_assoc, List.cons_append]
      have HLm : ∀ y ∈ ((t, firstT kd nm ns e.text a.text g.texts lo hi) :: (bd.lines (t + 1) ++ ((if el.len = 0 then [] else (t, elseT) :: el.lines (t + 1)) ++ [(t, [125])]))), y.2.length ≤ 1000000 := fun y hy => hrl.out y (by simp only [Sts.lines, St.lines]; rw [if_pos h345]; exact List.mem_append_left _ hy)
      have hcn : ls.length + (1 + ((bd.lines (t + 1)).length + ((if el.len = 0 then [] else (t, elseT) :: el.lines (t + 1)).length + 1))) + (r.lines t).length ≤ 1000000 := by
        have := hrc; simp only [Sts.lines, St.lines] at this; rw [if_pos h345] at this; simp only [List.length_append, List.length_cons, List.length_nil] at this ⊢; omega
      have hFl : (firstT kd nm ns e.text a.text g.texts lo hi).length ≤ 1000000 := HLm (t, _) List.mem_cons_self
      have HBd := Lib.hid (fun (w1 : World) (hb : Below w.heap.size W1 w1) => IH.out bd (by omega) hbm (t + 1) (by omega) (fun y hy => HLm y (by simp [hy])) (by omega) s.pb s.cb N w1 (Nat.le_trans HNN.out (Nat.le_trans hsz1 hb.size)) (okN.2.2.2.2.1.later ((HWr.out.mono (Nat.le_trans HNN.out hB.out.size)).trans (hb.mono HNN.out)) (Nat.le_refl N)) (HG.out.later (HW1.out.trans hb)))
      have HEd := Lib.hid (fun (h0 : ¬ el.len = 0) (w1 : World) (hb : Below w.heap.size W1 w1) => IH.out el (by omega) hem (t + 1) (by omega) (fun y hy => HLm y (by rw [if_neg h0]; simp [hy])) (by rw [if_neg h0] at hcn; simp only [List.length_cons] at hcn; omega) s.pl s.cl N w1 (Nat.le_trans HNN.out (Nat.le_trans hsz1 hb.size)) (okN.2.2.2.2.2.1.later ((HWr.out.mono (Nat.le_trans HNN.out hB.out.size)).trans (hb.mono HNN.out)) (Nat.le_refl N)) (HG.out.later (HW1.out.trans hb)))
      have hlo64 := ok1.2.2.2.2.2.2.1
      have hhi64 := ok1.2.2.2.2.2.2.2
      have ht1 : t ≤ 1000 := by omega
      have hwrap : IntKind.i64.wrap ((t : Int) + 1) = ((t + 1 : Nat) : Int) := by rw [IntWalk.i64_in _ (by omega)]; omega
      have hwrap2 : ((t + 1 : Nat) : Int) = (t : Int) + 1 := by omega
      have HEx := Lib.hid (fun (hem : e.may = true) (hl : e.text.length ≤ 1000000) (w1 : World) (hb : Below W1.heap.size W1 w1) => rExpr_any e hem hl s.pe s.ce wo.heap.size w1 (ok1.2.1.later (HWr.out.trans (hb.mono (Nat.le_of_lt hws))) (Nat.le_refl _)) (Nat.le_trans (Nat.le_of_lt hws) hb.size) (HG1.out.later hb))
      have HFl := Lib.hid (fun (w1 : World) (hb : Below W1.heap.size W1 w1) => formatUint_any lo hlo64 w1 (HG1.out.later hb))
      have HFh := Lib.hid (fun (w1 : World) (hb : Below W1.heap.size W1 w1) => formatUint_any hi hhi64 w1 (HG1.out.later hb))
      obtain ⟨FT, hFT⟩ : ∃ F, F = str (firstT kd nm ns e.text a.text g.texts lo hi) := ⟨_, rfl⟩
      have HFT := Lib.hid hFT
      have HEl := Lib.hid HEl0
      have HCn := Lib.hid hcn
      clear HEl0 HLm okN ok1 hcn hE
      unfold Ex.val at HEx
      have k0 : W1.cell? ⟨wo.heap.size, 0, none⟩ = some (.int .i64 kd) := (HX.out W1 HXk.out).1
      go_upto_block 2 with fail
      clear k0
      go_cut [5, 8] from 10 to 143 (fun s5 s8 wx => s8 = .string FT ∧ Hid (LnRow w.heap.size W1 ls s5) ∧ Hid (Below W1.heap.size W1 wx))
      case first =>
        obtain ⟨c0, c1, c2, c3, c4, c5, c6, c7, c8, c9, c10, c11, c12, c13, c14, c15⟩ := HX.out W1 HXk.out
        clear c7 c8 c9 c10 c11 c14 c15 c2 HBd HEd
        rcases h345 with rfl | rfl | rfl
        · rw [show firstT 3 nm ns e.text a.text g.texts lo hi = [105, 102, 32] ++ e.text ++ [32, 123] by simp [firstT]] at hFT hFl
          simp only [List.length_append, List.length_cons, List.length_nil] at hFl
          have HE1 := Lib.hid (HEx.out (hel (by decide)) (by omega))
          clear HEx HFl HFh c0 c1 c12 c13
          obtain ⟨TE, hTE⟩ : ∃ A, A = str (e.text) := ⟨_, rfl⟩
          obtain ⟨B3, hB3⟩ : ∃ B, B = str ([105, 102, 32] ++ (e.text)) := ⟨_, rfl⟩
          have qB3 : ∀ w : World, (Op.stringOp .add ⟨#[105, 102, 32]⟩ TE).run Tryz.prog w = .ok (.string B3) w := fun w => by
            (try rw [hB3]); (try rw [hTE]); exact add_str ([105, 102, 32]) (e.text) (by simp only [List.length_cons, List.length_nil]; omega) w
          have qF : ∀ w : World, (Op.stringOp .add B3 ⟨#[32, 123]⟩).run Tryz.prog w = .ok (.string FT) w := fun w => by rw [hFT, hB3]; exact add_str ([105, 102, 32] ++ e.text) [32, 123] (by simp only [List.length_append, List.length_cons, List.length_nil]; omega) w
          rw [← hTE] at HE1
          clear hTE hB3 hFT
          go_wp2_with fail
          refine (HE1.out _ (Below.refl _ _)).mono ?_
          rintro z wa ⟨rfl, hB'⟩
          have HSB := Lib.hid hB'
          clear hB' c3 c4 c5 c6
          go_wp2_with fail
          go_meet
          exact ⟨rfl, HOW, HSB⟩
        · rw [show firstT 4 nm ns e.text a.text g.texts lo hi = [119, 104, 105, 108, 101, 32] ++ e.text ++ [32, 123] by simp [firstT]] at hFT hFl
          simp only [List.length_append, List.length_cons, List.length_nil] at hFl
          have HE1 := Lib.hid (HEx.out (hel (by decide)) (by omega))
          clear HEx HFl HFh c0 c1 c12 c13
          obtain ⟨TE, hTE⟩ : ∃ A, A = str (e.text) := ⟨_, rfl⟩
          obtain ⟨B3, hB3⟩ : ∃ B, B = str ([119, 104, 105, 108, 101, 32] ++ (e.text)) := ⟨_, rfl⟩
          have qB3 : ∀ w : World, (Op.stringOp .add ⟨#[119, 104, 105, 108, 101, 32]⟩ TE).run Tryz.prog w = .ok (.string B3) w := fun w => by
            (try rw [hB3]); (try rw [hTE]); exact add_str ([119, 104, 105, 108, 101, 32]) (e.text) (by simp only [List.length_cons, List.length_nil]; omega) w
          have qF : ∀ w : World, (Op.stringOp .add B3 ⟨#[32, 123]⟩).run Tryz.prog w = .ok (.string FT) w := fun w => by rw [hFT, hB3]; exact add_str ([119, 104, 105, 108, 101, 32] ++ e.text) [32, 123] (by simp only [List.length_append, List.length_cons, List.length_nil]; omega) w
          rw [← hTE] at HE1
          clear hTE hB3 hFT
          go_wp2_with fail
          refine (HE1.out _ (Below.refl _ _)).mono ?_
          rintro z wa ⟨rfl, hB'⟩
          have HSB := Lib.hid hB'
          clear hB' c3 c4 c5 c6
          go_wp2_with fail
          go_meet
          exact ⟨rfl, HOW, HSB⟩
        · obtain ⟨DL, hDL⟩ : ∃ D, D = Lib.decDigits lo := ⟨_, rfl⟩
          obtain ⟨DH, hDH⟩ : ∃ D, D = Lib.decDigits hi := ⟨_, rfl⟩
          rw [show firstT 5 nm ns e.text a.text g.texts lo hi = [102, 111, 114, 32] ++ nm ++ [32] ++ DL ++ [32] ++ DH ++ [32, 123] by rw [hDL, hDH]; simp [firstT]] at hFT hFl
          rw [← hDL] at HFl
          rw [← hDH] at HFh
          simp only [List.length_append, List.length_cons, List.length_nil] at hFl
          clear HEx c0 c3 c4 c5 c6 hDL hDH
          obtain ⟨NM, hNM⟩ : ∃ A, A = str (nm) := ⟨_, rfl⟩
          obtain ⟨A1, hA1⟩ : ∃ A, A = str (DL) := ⟨_, rfl⟩
          obtain ⟨A2, hA2⟩ : ∃ A, A = str (DH) := ⟨_, rfl⟩
          obtain ⟨B2, hB2⟩ : ∃ B, B = str ([102, 111, 114, 32] ++ (nm)) := ⟨_, rfl⟩
          obtain ⟨B3, hB3⟩ : ∃ B, B = str ([102, 111, 114, 32] ++ nm ++ ([32])) := ⟨_, rfl⟩
          obtain ⟨B7, hB7⟩ : ∃ B, B = str ([102, 111, 114, 32] ++ nm ++ [32] ++ (DL)) := ⟨_, rfl⟩
          obtain ⟨B8, hB8⟩ : ∃ B, B = str ([102, 111, 114, 32] ++ nm ++ [32] ++ DL ++ ([32])) := ⟨_, rfl⟩
          obtain ⟨B12, hB12⟩ : ∃ B, B = str ([102, 111, 114, 32] ++ nm ++ [32] ++ DL ++ [32] ++ (DH)) := ⟨_, rfl⟩
          have qB2 : ∀ w : World, (Op.stringOp .add ⟨#[102, 111, 114, 32]⟩ NM).run Tryz.prog w = .ok (.string B2) w := fun w => by
            (try rw [hB2]); (try rw [hNM]); exact add_str ([102, 111, 114, 32]) (nm) (by simp only [List.length_cons, List.length_nil]; omega) w
          have qB3 : ∀ w : World, (Op.stringOp .add B2 ⟨#[32]⟩).run Tryz.prog w = .ok (.string B3) w := fun w => by
            (try rw [hB3]); (try rw [hB2]); exact add_str ([102, 111, 114, 32] ++ nm) ([32]) (by simp only [List.length_append, List.length_cons, List.length_nil]; omega) w
          have qB7 : ∀ w : World, (Op.stringOp .add B3 A1).run Tryz.prog w = .ok (.string B7) w := fun w => by
            (try rw [hB7]); (try rw [hB3]); (try rw [hA1]); exact add_str ([102, 111, 114, 32] ++ nm ++ [32]) (DL) (by simp only [List.length_append, List.length_cons, List.length_nil]; omega) w
          have qB8 : ∀ w : World, (Op.stringOp .add B7 ⟨#[32]⟩).run Tryz.prog w = .ok (.string B8) w := fun w => by
            (try rw [hB8]); (try rw [hB7]); exact add_str ([102, 111, 114, 32] ++ nm ++ [32] ++ DL) ([32]) (by simp only [List.length_append, List.length_cons, List.length_nil]; omega) w
          have qB12 : ∀ w : World, (Op.stringOp .add B8 A2).run Tryz.prog w = .ok (.string B12) w := fun w => by
            (try rw [hB12]); (try rw [hB8]); (try rw [hA2]); exact add_str ([102, 111, 114, 32] ++ nm ++ [32] ++ DL ++ [32]) (DH) (by simp only [List.length_append, List.length_cons, List.length_nil]; omega) w
          have qF : ∀ w : World, (Op.stringOp .add B12 ⟨#[32, 123]⟩).run Tryz.prog w = .ok (.string FT) w := fun w => by rw [hFT, hB12]; exact add_str ([102, 111, 114, 32] ++ nm ++ [32] ++ DL ++ [32] ++ DH) [32, 123] (by simp only [List.length_append, List.length_cons, List.length_nil]; omega) w
          rw [← hNM] at c1
          rw [← hA1] at HFl
          rw [← hA2] at HFh
          clear hNM hA1 hA2 hB2 hB3 hB7 hB8 hB12 hFT
          go_upto_region 8 with fail
          have HSB : Below W1.heap.size W1 W1.drew := (Below.refl _ _).drew
          refine wp_region_held_drew (S := fun W => W.cell? ⟨wo.heap.size, 1, none⟩ = some (.string NM) ∧ W.cell? ⟨wo.heap.size, 12, none⟩ = some (.int .u64 (lo : Int)) ∧ W.cell? ⟨wo.heap.size, 13, none⟩ = some (.int .u64 (hi : Int))) (by kernel_rfl) ?_ (fun hHeld => ?_)
          · exact ⟨(HSB.cell hws).trans c1, (HSB.cell hws).trans c12, (HSB.cell hws).trans c13⟩
          refine wpAnyH_take (i := 0) (oi := ⟨some 22, .fieldAddr 54 (.tmp 7) 1, 0, "ref.go:276", #[], none⟩) (v := ?_) rfl (by kernel_rfl) (by kernel_rfl) (by kernel_rfl) (fun _ _ _ h => h) (Or.inl ⟨by rfl, ?_⟩) (by assumption) ?_
          rotate_left
          · (intro w hSw; (try dsimp only at hSw); go_simp; try with_reducible rfl)
          try simp only [Act.put, List.setIfInBounds_toArray, List.set_cons_zero, List.set_cons_succ]
          refine wpAnyH_take (i := 1) (oi := ⟨some 23, .load 9 (.tmp 22), 9, "ref.go:276", #[⟨0, .data⟩], none⟩) (v := ?_) rfl (by kernel_rfl) (by kernel_rfl) (by kernel_rfl) (fun _ _ _ h => h) (Or.inl ⟨by rfl, ?_⟩) (by assumption) ?_
          rotate_left
          · (intro w hSw; (try dsimp only at hSw); go_simp; try with_reducible rfl)
          try simp only [Act.put, List.setIfInBounds_toArray, List.set_cons_zero, List.set_cons_succ]
          refine wpAnyH_take (i := 2) (oi := ⟨some 24, .binOp .add 9 (.const (.string ⟨#[102, 111, 114, 32]⟩)) (.tmp 23) 9, 9, "ref.go:276", #[⟨1, .data⟩], none⟩) (v := .string B2) rfl (by kernel_rfl) (by kernel_rfl) (by kernel_rfl) (fun _ _ _ h => h) (Or.inl ⟨by rfl, ?_⟩) (by assumption) ?_
          · (intro w hSw; (try dsimp only at hSw); go_simp)
          try simp only [Act.put, List.setIfInBounds_toArray, List.set_cons_zero, List.set_cons_succ]
          refine wpAnyH_take (i := 3) (oi := ⟨some 25, .binOp .add 9 (.tmp 24) (.const (.string ⟨#[32]⟩)) 9, 9, "ref.go:276", #[⟨2, .data⟩], none⟩) (v := .string B3) rfl (by kernel_rfl) (by kernel_rfl) (by kernel_rfl) (fun _ _ _ h => h) (Or.inl ⟨by rfl, ?_⟩) (by assumption) ?_
          · (intro w hSw; (try dsimp only at hSw); go_simp)
          try simp only [Act.put, List.setIfInBounds_toArray, List.set_cons_zero, List.set_cons_succ]
          refine wpAnyH_take (i := 4) (oi := ⟨some 26, .fieldAddr 54 (.tmp 7) 6, 0, "ref.go:276", #[], none⟩) (v := ?_) rfl (by kernel_rfl) (by kernel_rfl) (by kernel_rfl) (fun _ _ _ h => h) (Or.inl ⟨by rfl, ?_⟩) (by assumption) ?_
          rotate_left
          · (intro w hSw; (try dsimp only at hSw); go_simp; try with_reducible rfl)
          try simp only [Act.put, List.setIfInBounds_toArray, List.set_cons_zero, List.set_cons_succ]
          refine wpAnyH_take (i := 5) (oi := ⟨some 27, .load 23 (.tmp 26), 23, "ref.go:276", #[⟨4, .data⟩], none⟩) (v := ?_) rfl (by kernel_rfl) (by kernel_rfl) (by kernel_rfl) (fun _ _ _ h => h) (Or.inl ⟨by rfl, ?_⟩) (by assumption) ?_
          rotate_left
          · (intro w hSw; (try dsimp only at hSw); go_simp; try with_reducible rfl)
          try simp only [Act.put, List.setIfInBounds_toArray, List.set_cons_zero, List.set_cons_succ]
          refine wpAnyH_take (i := 9) (oi := ⟨some 31, .fieldAddr 54 (.tmp 7) 7, 0, "ref.go:276", #[], none⟩) (v := ?_) rfl (by kernel_rfl) (by kernel_rfl) (by kernel_rfl) (fun _ _ _ h => h) (Or.inl ⟨by rfl, ?_⟩) (by assumption) ?_
          rotate_left
          · (intro w hSw; (try dsimp only at hSw); go_simp; try with_reducible rfl)
          try simp only [Act.put, List.setIfInBounds_toArray, List.set_cons_zero, List.set_cons_succ]
          refine wpAnyH_take (i := 10) (oi := ⟨some 32, .load 23 (.tmp 31), 23, "ref.go:276", #[⟨9, .data⟩], none⟩) (v := ?_) rfl (by kernel_rfl) (by kernel_rfl) (by kernel_rfl) (fun _ _ _ h => h) (Or.inl ⟨by rfl, ?_⟩) (by assumption) ?_
          rotate_left
          · (intro w hSw; (try dsimp only at hSw); go_simp; try with_reducible rfl)
          try simp only [Act.put, List.setIfInBounds_toArray, List.set_cons_zero, List.set_cons_succ]
          refine wpAnyH_ready (rs := [6]) (by kernel_rfl) (by simp) ?_
          refine AllReadyH.cons (o := ⟨some 28, .call { callee := .value (.func 40), args := #[.tmp 27, .const (.int .i64 10)], argTypes := #[23, 3] }, 9, "ref.go:276", #[⟨5, .data⟩], none⟩) rfl (fun K hK => ?_) AllReadyH.nil
          go_simp
          refine (HFl.out _ HSB).mono ?_
          rintro z wa ⟨rfl, hB'⟩
          replace HSB := HSB.trans (hB'.mono HSB.size)
          clear hB'
          refine hK.out _ _ ?_ (fun hHeld => ?_)
          · exact ⟨(HSB.cell hws).trans c1, (HSB.cell hws).trans c12, (HSB.cell hws).trans c13⟩
          clear hK K
          try simp only [Act.put, List.setIfInBounds_toArray, List.set_cons_zero, List.set_cons_succ]
          refine wpAnyH_take (i := 7) (oi := ⟨some 29, .binOp .add 9 (.tmp 25) (.tmp 28) 9, 9, "ref.go:276", #[⟨3, .data⟩, ⟨6, .data⟩], none⟩) (v := .string B7) rfl (by kernel_rfl) (by kernel_rfl) (by kernel_rfl) (fun _ _ _ h => h) (Or.inl ⟨by rfl, ?_⟩) (by assumption) ?_
          · (intro w hSw; (try dsimp only at hSw); go_simp)
          try simp only [Act.put, List.setIfInBounds_toArray, List.set_cons_zero, List.set_cons_succ]
          refine wpAnyH_take (i := 8) (oi := ⟨some 30, .binOp .add 9 (.tmp 29) (.const (.string ⟨#[32]⟩)) 9, 9, "ref.go:276", #[⟨7, .data⟩], none⟩) (v := .string B8) rfl (by kernel_rfl) (by kernel_rfl) (by kernel_rfl) (fun _ _ _ h => h) (Or.inl ⟨by rfl, ?_⟩) (by assumption) ?_
          · (intro w hSw; (try dsimp only at hSw); go_simp)
          try simp only [Act.put, List.setIfInBounds_toArray, List.set_cons_zero, List.set_cons_succ]
          refine wpAnyH_ready (rs := [11]) (by kernel_rfl) (by simp) ?_
          refine AllReadyH.cons (o := ⟨some 33, .call { callee := .value (.func 40), args := #[.tmp 32, .const (.int .i64 10)], argTypes := #[23, 3] }, 9, "ref.go:276", #[⟨10, .data⟩, ⟨6, .chain⟩], none⟩) rfl (fun K hK => ?_) AllReadyH.nil
          go_simp
          refine (HFh.out _ HSB).mono ?_
          rintro z wa ⟨rfl, hB'⟩
          replace HSB := HSB.trans (hB'.mono HSB.size)
          clear hB'
          refine hK.out _ _ ?_ (fun hHeld => ?_)
          · exact ⟨(HSB.cell hws).trans c1, (HSB.cell hws).trans c12, (HSB.cell hws).trans c13⟩
          clear hK K
          try simp only [Act.put, List.setIfInBounds_toArray, List.set_cons_zero, List.set_cons_succ]
          refine wpAnyH_take (i := 12) (oi := ⟨some 34, .binOp .add 9 (.tmp 30) (.tmp 33) 9, 9, "ref.go:276", #[⟨8, .data⟩, ⟨11, .data⟩], none⟩) (v := .string B12) rfl (by kernel_rfl) (by kernel_rfl) (by kernel_rfl) (fun _ _ _ h => h) (Or.inl ⟨by rfl, ?_⟩) (by assumption) ?_
          · (intro w hSw; (try dsimp only at hSw); go_simp)
          try simp only [Act.put, List.setIfInBounds_toArray, List.set_cons_zero, List.set_cons_succ]
          refine wpAnyH_take (i := 13) (oi := ⟨some 35, .binOp .add 9 (.tmp 34) (.const (.string ⟨#[32, 123]⟩)) 9, 9, "ref.go:276", #[⟨12, .data⟩], none⟩) (v := .string FT) rfl (by kernel_rfl) (by kernel_rfl) (by kernel_rfl) (fun _ _ _ h => h) (Or.inl ⟨by rfl, ?_⟩) (by assumption) ?_
          · (intro w hSw; (try dsimp only at hSw); go_simp)
          try simp only [Act.put, List.setIfInBounds_toArray, List.set_cons_zero, List.set_cons_succ]
          refine wpAnyH_take (i := 14) (oi := ⟨some 8, .assign (.tmp 35), 9, "ref.go:276", #[⟨13, .data⟩, ⟨11, .chain⟩, ⟨0, .phase⟩, ⟨1, .phase⟩, ⟨2, .phase⟩, ⟨3, .phase⟩, ⟨4, .phase⟩, ⟨5, .phase⟩, ⟨6, .phase⟩, ⟨7, .phase⟩, ⟨8, .phase⟩, ⟨9, .phase⟩, ⟨10, .phase⟩, ⟨11, .phase⟩, ⟨12, .phase⟩, ⟨13, .phase⟩], none⟩) (v := ?_) rfl (by kernel_rfl) (by kernel_rfl) (by kernel_rfl) (fun _ _ _ h => h) (Or.inl ⟨by rfl, ?_⟩) (by assumption) ?_
          rotate_left
          · (intro w hSw; (try dsimp only at hSw); go_simp; try with_reducible rfl)
          try simp only [Act.put, List.setIfInBounds_toArray, List.set_cons_zero, List.set_cons_succ]
          refine wpAnyH_done (by kernel_rfl) ?_ _
          go_wp2_with fail
          go_meet
          exact ⟨rfl, HOW, Lib.hid HSB⟩
      case rest =>
        clear HOW
        obtain ⟨rfl, HOW, HD⟩ := hcut
        clear HEx HFl HFh hel hFT hFl
        obtain ⟨c0, c1, c2, c3, c4, c5, c6, c7, c8, c9, c10, c11, c12, c13, c14, c15⟩ := HX.out W1 HXk.out
        clear c0 c1 c2 c3 c4 c5 c6 c7 c8 c9 c10 c11 c12 c13
        have hsc := HD.out.size
        go_upto_region 22 with fail
        have HSB : Below W1.heap.size W1 wc.drew := HD.out.drew
        have HS : KpL w.heap.size W1 wc.drew := KpL.of_below HSB
        refine wp_region_held_drew (S := fun W => W.cell? ⟨wo.heap.size, 14, none⟩ = some (.slice s.pb bd.len s.cb)) (by kernel_rfl) ?_ (fun hHeld => ?_)
        · exact (HSB.cell hws).trans c14
        refine wpAnyH_take (i := 0) (oi := ⟨some 112, .move (.tmp 5), 100, "ref.go:278", #[], none⟩) (v := ?_) rfl (by kernel_rfl) (by kernel_rfl) (by kernel_rfl) (fun _ _ _ h => h) (Or.inl ⟨by rfl, ?_⟩) (by assumption) ?_
        rotate_left
        · (intro w hSw; (try dsimp only at hSw); go_simp; try with_reducible rfl)
        try simp only [Act.put, List.setIfInBounds_toArray, List.set_cons_zero, List.set_cons_succ]
        refine wpAnyH_take (i := 1) (oi := ⟨some 113, .move (.tmp 1), 3, "ref.go:278", #[], none⟩) (v := ?_) rfl (by kernel_rfl) (by kernel_rfl) (by kernel_rfl) (fun _ _ _ h => h) (Or.inl ⟨by rfl, ?_⟩) (by assumption) ?_
        rotate_left
        · (intro w hSw; (try dsimp only at hSw); go_simp; try with_reducible rfl)
        try simp only [Act.put, List.setIfInBounds_toArray, List.set_cons_zero, List.set_cons_succ]
        refine wpAnyH_take (i := 2) (oi := ⟨some 114, .move (.tmp 8), 9, "ref.go:278", #[], none⟩) (v := ?_) rfl (by kernel_rfl) (by kernel_rfl) (by kernel_rfl) (fun _ _ _ h => h) (Or.inl ⟨by rfl, ?_⟩) (by assumption) ?_
        rotate_left
        · (intro w hSw; (try dsimp only at hSw); go_simp; try with_reducible rfl)
        try simp only [Act.put, List.setIfInBounds_toArray, List.set_cons_zero, List.set_cons_succ]
        refine wpAnyH_take (i := 3) (oi := ⟨some 115, .build 104 #[(0, .tmp 113), (1, .tmp 114)], 104, "ref.go:278", #[⟨1, .data⟩, ⟨2, .data⟩], none⟩) (v := ?_) rfl (by kernel_rfl) (by kernel_rfl) (by kernel_rfl) (fun _ _ _ h => h) (Or.inl ⟨by rfl, ?_⟩) (by assumption) ?_
        rotate_left
        · (intro w hSw; (try dsimp only at hSw); go_simp; try with_reducible rfl)
        try simp only [Act.put, List.setIfInBounds_toArray, List.set_cons_zero, List.set_cons_succ]
        refine wpAnyH_take (i := 6) (oi := ⟨some 118, .fieldAddr 54 (.tmp 7) 8, 0, "ref.go:278", #[], none⟩) (v := ?_) rfl (by kernel_rfl) (by kernel_rfl) (by kernel_rfl) (fun _ _ _ h => h) (Or.inl ⟨by rfl, ?_⟩) (by assumption) ?_
        rotate_left
        · (intro w hSw; (try dsimp only at hSw); go_simp; try with_reducible rfl)
        try simp only [Act.put, List.setIfInBounds_toArray, List.set_cons_zero, List.set_cons_succ]
        refine wpAnyH_take (i := 7) (oi := ⟨some 119, .load 47 (.tmp 118), 47, "ref.go:278", #[⟨6, .data⟩], none⟩) (v := ?_) rfl (by kernel_rfl) (by kernel_rfl) (by kernel_rfl) (fun _ _ _ h => h) (Or.inl ⟨by rfl, ?_⟩) (by assumption) ?_
        rotate_left
        · (intro w hSw; (try dsimp only at hSw); go_simp; try with_reducible rfl)
        try simp only [Act.put, List.setIfInBounds_toArray, List.set_cons_zero, List.set_cons_succ]
        refine wpAnyH_take (i := 8) (oi := ⟨some 120, .move (.tmp 1), 3, "ref.go:278", #[], none⟩) (v := ?_) rfl (by kernel_rfl) (by kernel_rfl) (by kernel_rfl) (fun _ _ _ h => h) (Or.inl ⟨by rfl, ?_⟩) (by assumption) ?_
        rotate_left
        · (intro w hSw; (try dsimp only at hSw); go_simp; try with_reducible rfl)
        try simp only [Act.put, List.setIfInBounds_toArray, List.set_cons_zero, List.set_cons_succ]
        refine wpAnyH_take (i := 9) (oi := ⟨some 121, .binOp .add 3 (.tmp 120) (.const (.int .i64 1)) 3, 3, "ref.go:278", #[⟨8, .data⟩], none⟩) (v := .int .i64 ((t + 1 : Nat) : Int)) rfl (by kernel_rfl) (by kernel_rfl) (by kernel_rfl) (fun _ _ _ h => h) (Or.inl ⟨by rfl, ?_⟩) (by assumption) ?_
        · (intro w hSw; (try dsimp only at hSw); go_simp)
        try simp only [Act.put, List.setIfInBounds_toArray, List.set_cons_zero, List.set_cons_succ]
        refine wpAnyH_ready (rs := [4]) (by kernel_rfl) (by simp) ?_
        refine AllReadyH.cons (o := ⟨some 116, .buildSlice 100 1 #[(0, .tmp 115)], 100, "ref.go:278", #[⟨3, .data⟩], none⟩) rfl (fun K hK => ?_) AllReadyH.nil
        go_simp
        replace HSB := HSB.alloc HSB.size (.cells #[.int .i64 (t : Int), .string FT] 104 (0, 0))
        refine hK.out _ _ ?_ (fun hHeld => ?_)
        · exact (HSB.cell hws).trans c14
        clear hK K
        try simp only [Act.put, List.setIfInBounds_toArray, List.set_cons_zero, List.set_cons_succ]
        refine wpAnyH_ready (rs := [5]) (by kernel_rfl) (by simp) ?_
        refine AllReadyH.cons (o := ⟨some 117, .call { callee := .builtin .append, args := #[.tmp 112, .tmp 116], argTypes := #[100, 100] }, 100, "ref.go:278", #[⟨0, .data⟩, ⟨4, .data⟩], none⟩) rfl (fun K hK => ?_) AllReadyH.nil
        refine step_line (x := (t, firstT kd nm ns e.text a.text g.texts lo hi)) rfl (.tmp 112) (.tmp 116) rfl (by rfl) (HOW.out.later HSB) (Nat.le_trans hsz1 HSB.size) (Nat.le_trans hlsl (by decide)) wc.heap.size (by rfl) (by simp [go_sem]) (by rw [← HFT.out]; simp [go_sem]) ?_
        rintro v' wb hR' hK'
        replace HS := (KpL.of_below HSB).trans hK'
        have HSB2 := HS.below hsz1
        have hsz2 := HSB2.size
        have hq := HX.out wb (HS.block _ _ HXk.out (.inr (stmt_notLn _)))
        refine hK.out _ _ ?_ (fun hHeld => ?_)
        · exact hq.2.2.2.2.2.2.2.2.2.2.2.2.2.2.1
        clear hK K
        try simp only [Act.put, List.setIfInBounds_toArray, List.set_cons_zero, List.set_cons_succ]
        refine wpAnyH_ready (rs := [10]) (by kernel_rfl) (by simp) ?_
        refine AllReadyH.cons (o := ⟨some 122, .call { callee := .value (.func 60), args := #[.tmp 119, .tmp 121], argTypes := #[47, 3] }, 100, "ref.go:278", #[⟨7, .data⟩, ⟨9, .data⟩, ⟨5, .chain⟩], none⟩) rfl (fun K hK => ?_) AllReadyH.nil
        go_simp
        refine (HBd.out _ (HS.below hsz1)).mono ?_
        rintro z wd ⟨⟨vb, rfl, hrow⟩, hBd⟩
        have hq2 := HX.out wd ((hBd.block _ (lt_of_block (HS.block _ _ HXk.out (.inr (stmt_notLn _))))).trans (HS.block _ _ HXk.out (.inr (stmt_notLn _))))
        refine hK.out _ _ ?_ (fun hHeld => ?_)
        · exact hq2.2.2.2.2.2.2.2.2.2.2.2.2.2.2.1
        clear hK K
        try simp only [Act.put, List.setIfInBounds_toArray, List.set_cons_zero, List.set_cons_succ]
        refine wpAnyH_ready (rs := [11]) (by kernel_rfl) (by simp) ?_
        refine AllReadyH.cons (o := ⟨some 123, .call { callee := .builtin .append, args := #[.tmp 117, .tmp 122], argTypes := #[100, 100] }, 100, "ref.go:278", #[⟨5, .data⟩, ⟨10, .data⟩, ⟨10, .chain⟩], none⟩) rfl (fun K hK => ?_) AllReadyH.nil
        obtain ⟨q2, d2, rfl, hsrc⟩ := hrow.src
        refine step_lines (xs := bd.lines (t + 1)) rfl (.tmp 117) (.tmp 122) rfl (by rfl) (hR'.later hBd) (Nat.le_trans hsz1 (HSB2.trans (hBd.mono (Nat.le_trans hsz1 hsz2))).size) (by simp only [List.length_append, List.length_cons, List.length_nil]; have := HCn.out; omega) q2 d2 (by rfl) hsrc ?_
        rintro v2 we hR2 hK2
        replace HS := (HS.trans (KpL.of_below hBd)).trans hK2
        have hq := HX.out we (HS.block _ _ HXk.out (.inr (stmt_notLn _)))
        refine hK.out _ _ ?_ (fun hHeld => ?_)
        · exact hq.2.2.2.2.2.2.2.2.2.2.2.2.2.2.1
        clear hK K
        try simp only [Act.put, List.setIfInBounds_toArray, List.set_cons_zero, List.set_cons_succ]
        refine wpAnyH_take (i := 12) (oi := ⟨some 5, .assign (.tmp 123), 100, "ref.go:278", #[⟨11, .data⟩, ⟨11, .chain⟩, ⟨0, .phase⟩, ⟨1, .phase⟩, ⟨2, .phase⟩, ⟨3, .phase⟩, ⟨4, .phase⟩, ⟨5, .phase⟩, ⟨6, .phase⟩, ⟨7, .phase⟩, ⟨8, .phase⟩, ⟨9, .phase⟩, ⟨10, .phase⟩, ⟨11, .phase⟩], none⟩) (v := ?_) rfl (by kernel_rfl) (by kernel_rfl) (by kernel_rfl) (fun _ _ _ h => h) (Or.inl ⟨by rfl, ?_⟩) (by assumption) ?_
        rotate_left
        · (intro w hSw; (try dsimp only at hSw); go_simp; try with_reducible rfl)
        try simp only [Act.put, List.setIfInBounds_toArray, List.set_cons_zero, List.set_cons_succ]
        refine wpAnyH_done (by kernel_rfl) ?_ _
        have e15 : we.cell? ⟨wo.heap.size, 15, none⟩ = some (.slice s.pl el.len s.cl) := hq.2.2.2.2.2.2.2.2.2.2.2.2.2.2.2
        have HO2 := Lib.hid hR2
        have HS2 := Lib.hid HS
        have hwe : w.heap.size ≤ we.heap.size := Nat.le_trans hsz1 HS.size
        clear hR2 HS HSB HSB2 hsz2 hR' hK' hK2 hBd hrow hsrc hq hq2 c14 c15 HD HBd HOW
        by_cases hel0 : el.len = 0
        · have HEl2 := HEl.out
          have hcn2 := HCn.out
          rw [if_pos hel0] at HEl2 hcn2
          have HEl3 := Lib.hid (show l.lines t = ((ls ++ [(t, firstT kd nm ns e.text a.text g.texts lo hi)]) ++ bd.lines (t + 1) ++ [(t, [125])]) ++ r.lines t by rw [HEl2]; simp)
          have hcn3 : ((ls ++ [(t, firstT kd nm ns e.text a.text g.texts lo hi)]) ++ bd.lines (t + 1) ++ [(t, [125])]).length + (r.lines t).length ≤ 1000000 := by simp only [List.length_append, List.length_cons, List.length_nil] at hcn2 ⊢; omega
          rw [hel0] at e15
          clear HEl HCn HEl2 hcn2 HEd
          obtain ⟨LL, hLL⟩ : ∃ L, L = (ls ++ [(t, firstT kd nm ns e.text a.text g.texts lo hi)]) ++ bd.lines (t + 1) := ⟨_, rfl⟩
          rw [← hLL] at HO2 HEl3 hcn3
          have hLLl : LL.length ≤ 1000000 := by simp only [List.length_append] at hcn3; omega
          clear hLL
          go_upto_region 25 with fail
          go_wp2_with (at_builtin; refine wpList_line (x := (t, [125])) rfl _ _ rfl rfl (HO2.out.later ((Below.refl _ we).alloc (Nat.le_refl _) _)) (by simp; omega) (Nat.le_trans hLLl (by decide)) we.heap.size rfl ?ca3 ?cb3 ?_)
          try (case ca3 => simp [go_sem])
          try (case cb3 => first | rfl | (rw [show str [125] = ⟨#[125]⟩ from rfl]; simp [go_sem]))
          intro v' wd hR' hK'
          have HO := Lib.hid hR'
          have HBe := Lib.hid (((HW1.out.trans (HS2.out.below hsz1)).alloc hwe (.cells #[.int .i64 (t : Int), .string ⟨#[125]⟩] 104)).trans (hK'.below (by simp; omega)))
          clear hR' hK'
          go_wp2_with fail
          go_roundw
          case rel => exact ⟨k + 1, r, LL ++ [(t, [125])], by go_num, by omega, by omega, hrm.2, by omega, Lib.hid (fun y hy => hrl.out y (by simp only [Sts.lines, List.mem_append]; exact .inr hy)), hcn3, Lib.hid fun b' o' e _ => by cases e; rw [show o + (k + 1) * 16 = o + k * 16 + 16 by omega]; exact HR.out, HEl3, HO, HBe⟩
          case measure => simp [intOf]; omega
        · have HEl2 := HEl.out
          have hcn2 := HCn.out
          rw [if_neg hel0] at HEl2 hcn2
          have HEl3 := Lib.hid (show l.lines t = (((ls ++ [(t, firstT kd nm ns e.text a.text g.texts lo hi)]) ++ bd.lines (t + 1)) ++ [(t, elseT)] ++ el.lines (t + 1) ++ [(t, [125])]) ++ r.lines t by rw [HEl2]; simp)
          have hcn3 : (((ls ++ [(t, firstT kd nm ns e.text a.text g.texts lo hi)]) ++ bd.lines (t + 1)) ++ [(t, elseT)] ++ el.lines (t + 1) ++ [(t, [125])]).length + (r.lines t).length ≤ 1000000 := by simp only [List.length_append, List.length_cons, List.length_nil] at hcn2 ⊢; omega
          have HEe := Lib.hid (HEd.out hel0)
          have hp1 : (0 : Int) < (el.len : Int) := by omega
          have hp2 : 0 < el.len := by omega
          clear HEl HCn HEl2 hcn2 HEd
          obtain ⟨LL, hLL⟩ : ∃ L, L = (ls ++ [(t, firstT kd nm ns e.text a.text g.texts lo hi)]) ++ bd.lines (t + 1) := ⟨_, rfl⟩
          rw [← hLL] at HO2 HEl3 hcn3
          have hLLl : LL.length + (el.lines (t + 1)).length + 2 ≤ 1000000 := by simp only [List.length_append, List.length_cons, List.length_nil] at hcn3; omega
          clear hLL
          have e15k := HS2.out.block _ _ HXk.out (.inr (stmt_notLn _))
          have HWK := Lib.hid e15k
          have hwl : wo.heap.size < we.heap.size := lt_of_block e15k
          clear e15k
          go_upto_region 24 with fail
          have HSB : Below we.heap.size we we.drew := (Below.refl _ _).drew
          have HS : KpL w.heap.size we we.drew := KpL.of_below HSB
          refine wp_region_held_drew (S := fun W => W.cell? ⟨wo.heap.size, 15, none⟩ = some (.slice s.pl el.len s.cl)) (by kernel_rfl) ?_ (fun hHeld => ?_)
          · exact (HSB.cell hwl).trans e15
          refine wpAnyH_take (i := 0) (oi := ⟨some 128, .move (.tmp 5), 100, "ref.go:280", #[], none⟩) (v := ?_) rfl (by kernel_rfl) (by kernel_rfl) (by kernel_rfl) (fun _ _ _ h => h) (Or.inl ⟨by rfl, ?_⟩) (by assumption) ?_
          rotate_left
          · (intro w hSw; (try dsimp only at hSw); go_simp; try with_reducible rfl)
          try simp only [Act.put, List.setIfInBounds_toArray, List.set_cons_zero, List.set_cons_succ]
          refine wpAnyH_take (i := 1) (oi := ⟨some 129, .move (.tmp 1), 3, "ref.go:280", #[], none⟩) (v := ?_) rfl (by kernel_rfl) (by kernel_rfl) (by kernel_rfl) (fun _ _ _ h => h) (Or.inl ⟨by rfl, ?_⟩) (by assumption) ?_
          rotate_left
          · (intro w hSw; (try dsimp only at hSw); go_simp; try with_reducible rfl)
          try simp only [Act.put, List.setIfInBounds_toArray, List.set_cons_zero, List.set_cons_succ]
          refine wpAnyH_take (i := 2) (oi := ⟨some 130, .build 104 #[(0, .tmp 129), (1, .const (.string ⟨#[125, 32, 101, 108, 115, 101, 32, 123]⟩))], 104, "ref.go:280", #[⟨1, .data⟩], none⟩) (v := ?_) rfl (by kernel_rfl) (by kernel_rfl) (by kernel_rfl) (fun _ _ _ h => h) (Or.inl ⟨by rfl, ?_⟩) (by assumption) ?_
          rotate_left
          · (intro w hSw; (try dsimp only at hSw); go_simp; try with_reducible rfl)
          try simp only [Act.put, List.setIfInBounds_toArray, List.set_cons_zero, List.set_cons_succ]
          refine wpAnyH_take (i := 5) (oi := ⟨some 133, .fieldAddr 54 (.tmp 7) 9, 0, "ref.go:280", #[], none⟩) (v := ?_) rfl (by kernel_rfl) (by kernel_rfl) (by kernel_rfl) (fun _ _ _ h => h) (Or.inl ⟨by rfl, ?_⟩) (by assumption) ?_
          rotate_left
          · (intro w hSw; (try dsimp only at hSw); go_simp; try with_reducible rfl)
          try simp only [Act.put, List.setIfInBounds_toArray, List.set_cons_zero, List.set_cons_succ]
          refine wpAnyH_take (i := 6) (oi := ⟨some 134, .load 47 (.tmp 133), 47, "ref.go:280", #[⟨5, .data⟩], none⟩) (v := ?_) rfl (by kernel_rfl) (by kernel_rfl) (by kernel_rfl) (fun _ _ _ h => h) (Or.inl ⟨by rfl, ?_⟩) (by assumption) ?_
          rotate_left
          · (intro w hSw; (try dsimp only at hSw); go_simp; try with_reducible rfl)
          try simp only [Act.put, List.setIfInBounds_toArray, List.set_cons_zero, List.set_cons_succ]
          refine wpAnyH_take (i := 7) (oi := ⟨some 135, .move (.tmp 1), 3, "ref.go:280", #[], none⟩) (v := ?_) rfl (by kernel_rfl) (by kernel_rfl) (by kernel_rfl) (fun _ _ _ h => h) (Or.inl ⟨by rfl, ?_⟩) (by assumption) ?_
          rotate_left
          · (intro w hSw; (try dsimp only at hSw); go_simp; try with_reducible rfl)
          try simp only [Act.put, List.setIfInBounds_toArray, List.set_cons_zero, List.set_cons_succ]
          refine wpAnyH_take (i := 8) (oi := ⟨some 136, .binOp .add 3 (.tmp 135) (.const (.int .i64 1)) 3, 3, "ref.go:280", #[⟨7, .data⟩], none⟩) (v := .int .i64 ((t + 1 : Nat) : Int)) rfl (by kernel_rfl) (by kernel_rfl) (by kernel_rfl) (fun _ _ _ h => h) (Or.inl ⟨by rfl, ?_⟩) (by assumption) ?_
          · (intro w hSw; (try dsimp only at hSw); go_simp)
          try simp only [Act.put, List.setIfInBounds_toArray, List.set_cons_zero, List.set_cons_succ]
          refine wpAnyH_ready (rs := [3]) (by kernel_rfl) (by simp) ?_
          refine AllReadyH.cons (o := ⟨some 131, .buildSlice 100 1 #[(0, .tmp 130)], 100, "ref.go:280", #[⟨2, .data⟩], none⟩) rfl (fun K hK => ?_) AllReadyH.nil
          go_simp
          replace HSB := HSB.alloc HSB.size (.cells #[.int .i64 (t : Int), .string ⟨#[125, 32, 101, 108, 115, 101, 32, 123]⟩] 104 (0, 0))
          refine hK.out _ _ ?_ (fun hHeld => ?_)
          · exact (HSB.cell hwl).trans e15
          clear hK K
          try simp only [Act.put, List.setIfInBounds_toArray, List.set_cons_zero, List.set_cons_succ]
          refine wpAnyH_ready (rs := [4]) (by kernel_rfl) (by simp) ?_
          refine AllReadyH.cons (o := ⟨some 132, .call { callee := .builtin .append, args := #[.tmp 128, .tmp 131], argTypes := #[100, 100] }, 100, "ref.go:280", #[⟨0, .data⟩, ⟨3, .data⟩], none⟩) rfl (fun K hK => ?_) AllReadyH.nil
          refine step_line (x := (t, elseT)) rfl (.tmp 128) (.tmp 131) rfl (by rfl) (HO2.out.later HSB) (Nat.le_trans hwe HSB.size) (by omega) we.heap.size (by rfl) (by simp [go_sem]) (by rw [show str elseT = ⟨#[125, 32, 101, 108, 115, 101, 32, 123]⟩ from rfl]; simp [go_sem]) ?_
          rintro v' wb hR' hK'
          replace HS := (KpL.of_below HSB).trans hK'
          have HSB2 := HS.below hwe
          have hq := HX.out wb (HS.block _ _ HWK.out (.inr (stmt_notLn _)))
          refine hK.out _ _ ?_ (fun hHeld => ?_)
          · exact hq.2.2.2.2.2.2.2.2.2.2.2.2.2.2.2
          clear hK K
          try simp only [Act.put, List.setIfInBounds_toArray, List.set_cons_zero, List.set_cons_succ]
          refine wpAnyH_ready (rs := [9]) (by kernel_rfl) (by simp) ?_
          refine AllReadyH.cons (o := ⟨some 137, .call { callee := .value (.func 60), args := #[.tmp 134, .tmp 136], argTypes := #[47, 3] }, 100, "ref.go:280", #[⟨6, .data⟩, ⟨8, .data⟩, ⟨4, .chain⟩], none⟩) rfl (fun K hK => ?_) AllReadyH.nil
          go_simp
          refine (HEe.out _ ((HS2.out.below hsz1).trans (HS.below hwe))).mono ?_
          rintro z wd ⟨⟨vb, rfl, hrow⟩, hBd⟩
          have hq2 := HX.out wd ((hBd.block _ (lt_of_block (HS.block _ _ HWK.out (.inr (stmt_notLn _))))).trans (HS.block _ _ HWK.out (.inr (stmt_notLn _))))
          refine hK.out _ _ ?_ (fun hHeld => ?_)
          · exact hq2.2.2.2.2.2.2.2.2.2.2.2.2.2.2.2
          clear hK K
          try simp only [Act.put, List.setIfInBounds_toArray, List.set_cons_zero, List.set_cons_succ]
          refine wpAnyH_ready (rs := [10]) (by kernel_rfl) (by simp) ?_
          refine AllReadyH.cons (o := ⟨some 138, .call { callee := .builtin .append, args := #[.tmp 132, .tmp 137], argTypes := #[100, 100] }, 100, "ref.go:280", #[⟨4, .data⟩, ⟨9, .data⟩, ⟨9, .chain⟩], none⟩) rfl (fun K hK => ?_) AllReadyH.nil
          obtain ⟨q2, d2, rfl, hsrc⟩ := hrow.src
          refine step_lines (xs := el.lines (t + 1)) rfl (.tmp 132) (.tmp 137) rfl (by rfl) (hR'.later hBd) (Nat.le_trans hwe (HSB2.trans (hBd.mono (Nat.le_trans hwe HSB2.size))).size) (by simp only [List.length_append, List.length_cons, List.length_nil]; omega) q2 d2 (by rfl) hsrc ?_
          rintro v2 wf hR2 hK2
          replace HS := (HS.trans (KpL.of_below hBd)).trans hK2
          have hq := HX.out wf (HS.block _ _ HWK.out (.inr (stmt_notLn _)))
          refine hK.out _ _ ?_ (fun hHeld => ?_)
          · exact hq.2.2.2.2.2.2.2.2.2.2.2.2.2.2.2
          clear hK K
          try simp only [Act.put, List.setIfInBounds_toArray, List.set_cons_zero, List.set_cons_succ]
          refine wpAnyH_take (i := 11) (oi := ⟨some 5, .assign (.tmp 138), 100, "ref.go:280", #[⟨10, .data⟩, ⟨10, .chain⟩, ⟨0, .phase⟩, ⟨1, .phase⟩, ⟨2, .phase⟩, ⟨3, .phase⟩, ⟨4, .phase⟩, ⟨5, .phase⟩, ⟨6, .phase⟩, ⟨7, .phase⟩, ⟨8, .phase⟩, ⟨9, .phase⟩, ⟨10, .phase⟩], none⟩) (v := ?_) rfl (by kernel_rfl) (by kernel_rfl) (by kernel_rfl) (fun _ _ _ h => h) (Or.inl ⟨by rfl, ?_⟩) (by assumption) ?_
          rotate_left
          · (intro w hSw; (try dsimp only at hSw); go_simp; try with_reducible rfl)
          try simp only [Act.put, List.setIfInBounds_toArray, List.set_cons_zero, List.set_cons_succ]
          refine wpAnyH_done (by kernel_rfl) ?_ _
          have HO3 := Lib.hid hR2
          have HS3 := Lib.hid (HS2.out.trans HS)
          have hwf : w.heap.size ≤ wf.heap.size := Nat.le_trans hwe HS.size
          obtain ⟨LM, hLM⟩ : ∃ L, L = LL ++ [(t, elseT)] ++ el.lines (t + 1) := ⟨_, rfl⟩
          rw [← hLM] at HO3 HEl3 hcn3
          have hLMl : LM.length ≤ 1000000 := by simp only [List.length_append] at hcn3; omega
          clear hLM hR2 HS HSB HSB2 hR' hK' hK2 hBd hrow hsrc hq hq2 e15 HO2 HEe
          go_upto_region 25 with fail
          go_wp2_with (at_builtin; refine wpList_line (x := (t, [125])) rfl _ _ rfl rfl (HO3.out.later ((Below.refl _ wf).alloc (Nat.le_refl _) _)) (by simp; omega) (Nat.le_trans hLMl (by decide)) wf.heap.size rfl ?ca4 ?cb4 ?_)
          try (case ca4 => simp [go_sem])
          try (case cb4 => first | rfl | (rw [show str [125] = ⟨#[125]⟩ from rfl]; simp [go_sem]))
          intro v' wd hR' hK'
          have HO := Lib.hid hR'
          have HBe := Lib.hid (((HW1.out.trans (HS3.out.below hsz1)).alloc hwf (.cells #[.int .i64 (t : Int), .string ⟨#[125]⟩] 104)).trans (hK'.below (by simp; omega)))
          clear hR' hK'
          go_wp2_with fail
          go_roundw
          case rel => exact ⟨k + 1, r, LM ++ [(t, [125])], by go_num, by omega, by omega, hrm.2, by omega, Lib.hid (fun y hy => hrl.out y (by simp only [Sts.lines, List.mem_append]; exact .inr hy)), hcn3, Lib.hid fun b' o' e _ => by cases e; rw [show o + (k + 1) * 16 = o + k * 16 + 16 by omega]; exact HR.out, HEl3, HO, HBe⟩
          case measure => simp [intOf]; omega
theorem rlines_to : ∀ n, RL n
  | 0 => fun _l hsz => absurd hsz (Nat.not_lt_zero _)
  | n + 1 => fun l hsz hmay t hdeep hlen hcnt p c N w hN hin hG => rlines_one n (rlines_to n) l hsz hmay t hdeep hlen hcnt p c N w hN hin hG
end Go.Proofs.YtlhbledakddbbaaGreatDoor
/- Rows of lines appended outside a drawn region, a text appended in one; a line read; how many lines there are, how long their text is. -/
namespace Go.Proofs.YtlhbledakddbbaaGreatDoor
open Go.RowKit

theorem wpList_lines {B : Nat} {ls xs : List (Nat × List UInt8)} {ops : Array Oper} {rest : List Oper} {o : Oper} {a : Act} {w : World} {Q : Exit → Act → World → Prop} {v : Value}
    (hgd : o.guard = none) (s y : Operand)
    (ho : o.op = .call { callee := .builtin .append, args := #[s, y], argTypes := #[100, 100] })
    (hs : a.eval s = v) (hR : LnRow B w ls v) (hB : B ≤ w.heap.size) (hl : ls.length + xs.length ≤ 1000000000) (p : Option Addr) (c : Nat)
    (hx : a.eval y = .slice p xs.length c) (hsrc : Src w 2 p xs.length c (lnC xs))
    (h : ∀ v' w', LnRow B w' (ls ++ xs) v' → KpL B w w' → wpList Tryz.prog ops Q rest (a.put o.dst v') w') :
    wpList Tryz.prog ops Q (o :: rest) a w := by
  refine wpList_plain hgd fun K hK => ?_
  have := step_lines (ops := ops) (E := True) (K := K) (Q := Q) hgd s y ho hs hR hB hl p c hx hsrc fun v' w' h1 h2 => hK _ _ (h v' w' h1 h2)
  rw [if_pos (by simp [Region.wanted, hgd])] at this
  exact this
/-- a text appended to a row of the call's own -/
theorem step_text {B : Nat} {ts : List (List UInt8)} {t : List UInt8} {ops : Array Oper} {o : Oper} {a : Act} {w : World} {K : Act → World → Prop} {Q : Exit → Act → World → Prop} {E : Prop} {v : Value}
    (hgd : o.guard = none) (s y : Operand)
    (ho : o.op = .call { callee := .builtin .append, args := #[s, y], argTypes := #[46, 46] })
    (hs : a.eval s = v) (hR : w.ownsRow B 9 1 v ts.length (strC ts)) (hB : B ≤ w.heap.size) (hl : ts.length ≤ 1000000000) (b : Nat)
    (hx : a.eval y = .slice (some ⟨b, 0, none⟩) 1 1) (c0 : w.cell? ⟨b, 0, none⟩ = some (.string (str t)))
    (h : ∀ v' w', w'.ownsRow B 9 1 v' (ts ++ [t]).length (strC (ts ++ [t])) → Below B w w' → K (a.put o.dst v') w') :
    if Region.wanted o (yielded ops a.tmps) = true then Oper.wp Tryz.prog o a w K Q else E := by
  obtain ⟨i0, hi, hz0, hz1, hz2⟩ := info_parts info_str1
  rw [if_pos (by simp [Region.wanted, hgd])]
  refine wp_append_own w s y 46 ho B 9 i0 (.string ByteArray.empty) 1 16 Tryz.underlying46 hi hz0 hz1 hz2 rfl (by decide) v ts.length (strC ts) hs hR ⟨b, 0, none⟩ 1 1 [.string (str t)] hx rfl ?_ ?_ ?_ ?_ hB ?_
  · intro j u hj; match j, hj with
    | 0, hj => simp at hj; subst hj; exact c0
  · intro u hu; simp at hu; subst hu; rfl
  · unfold maxLen; omega
  · omega
  · intro v' w' h2 h3 _
    refine h v' w' ?_ ((Below.refl B w).grown h3 hB (fun k hk => (hR.lt k hk).1))
    rw [List.length_append]
    simpa [strC] using h2
theorem lnC_get : ∀ (L : List (Nat × List UInt8)) (k : Nat) (x : Nat × List UInt8), L[k]? = some x → (lnC L)[k * 2]? = some (.int .i64 (x.1 : Int)) ∧ (lnC L)[k * 2 + 1]? = some (.string (str x.2))
  | y :: r, 0, x, h => by simp at h; subst h; exact ⟨rfl, rfl⟩
  | y :: r, k + 1, x, h => by
    have := lnC_get r k x (by simpa using h)
    rw [show (k + 1) * 2 = k * 2 + 2 by omega]
    simpa [lnC] using this
  | [], k, x, h => by simp at h
/-- where lines lie -/
def LnAt (w : World) (p : Option Addr) (ls : List (Nat × List UInt8)) : Prop :=
  ls.length = 0 ∨ ∃ g o, p = some ⟨g, o, none⟩ ∧ g < w.heap.size ∧ ∀ k x, ls[k]? = some x → w.cell? ⟨g, o + k * 2, none⟩ = some (.int .i64 (x.1 : Int)) ∧ w.cell? ⟨g, o + k * 2 + 1, none⟩ = some (.string (str x.2))
theorem LnRow.lie {B : Nat} {w : World} {ls : List (Nat × List UInt8)} {v : Value} (h : LnRow B w ls v) : ∃ p c, v = .slice p ls.length c ∧ LnAt w p ls := by
  rcases h.2 with ⟨rfl, h0⟩ | ⟨g, cap, cur, rfl, _, hh, _⟩
  · exact ⟨none, 0, by rw [h0], .inl h0⟩
  · refine ⟨_, cap, rfl, .inr ⟨g, 0, rfl, lt_of_block hh, fun k x hx => ?_⟩⟩
    have hc := World.ownsRow.cells h (g := g) rfl
    have hg := lnC_get ls k x hx
    have a1 := hc _ _ hg.1
    have a2 := hc _ _ hg.2
    rw [Nat.zero_add]
    have e : ∀ j : Nat, (⟨g, 0, none⟩ : Addr).add j = ⟨g, j, none⟩ := fun j => by unfold Addr.add; split <;> simp_all
    rw [e] at a1 a2
    exact ⟨a1, a2⟩
theorem Ex.total_pos (x : Ex) : 1 ≤ x.total := by cases x; simp only [Ex.total]; omega
mutual
theorem St.lines_cnt : ∀ (x : St) (t : Nat), (x.lines t).length ≤ x.total
  | .mk kd nm ns e a g lo hi bd el, t => by
    have hb := Sts.lines_cnt bd (t + 1)
    have hl := Sts.lines_cnt el (t + 1)
    have he := e.total_pos
    have ha := a.total_pos
    simp only [St.lines, St.total]
    split
    · split <;> (simp only [List.length_cons, List.length_append, List.length_nil]; omega)
    · simp only [List.length_cons, List.length_nil]; omega
theorem Sts.lines_cnt : ∀ (l : Sts) (t : Nat), (l.lines t).length ≤ l.total
  | .nil, _ => Nat.zero_le _
  | .cons x r, t => by
    have hx := St.lines_cnt x t
    have hr := Sts.lines_cnt r t
    simp only [Sts.lines, Sts.total, List.length_append]; omega
end
theorem Fnc.lines_cnt (f : Fnc) : f.lines.length ≤ f.total + 2 := by
  have h1 := Sts.lines_cnt f.body 1
  have h2 := vrsT_len' f.vars
  unfold Fnc.lines Fnc.total
  simp only [List.length_cons, List.length_append, List.length_map, List.length_nil]; omega
where vrsT_len' : ∀ l : List Vr, l.length ≤ vrsT l
  | [] => Nat.le_refl _
  | x :: r => by have := vrsT_len' r; simp only [List.length_cons, vrsT]; omega
theorem fns_cnt : ∀ l : List Fnc, (l.flatMap Fnc.lines).length ≤ fnsT l + 2 * l.length
  | [] => Nat.le_refl _
  | f :: r => by
    have h1 := Fnc.lines_cnt f
    have h2 := fns_cnt r
    simp only [List.flatMap_cons, List.length_append, List.length_cons, fnsT]; omega
theorem Prg.lines_cnt (x : Prg) : x.lines.length ≤ 3 * x.total := by
  have h1 := fns_cnt x.fns
  unfold Prg.lines Prg.total
  simp only [List.length_append, List.length_map]; omega
theorem linesT_len : ∀ (L : List (Nat × List UInt8)) (m : Nat), (∀ y ∈ L, y.1 + y.2.length + 1 ≤ m) → (linesT L).length ≤ L.length * m
  | [], _, _ => Nat.zero_le _
  | y :: r, m, h => by
    have h1 := linesT_len r m fun z hz => h z (List.mem_cons_of_mem _ hz)
    have h2 := h y List.mem_cons_self
    have e : linesT (y :: r) = lineT y ++ linesT r := by simp [linesT]
    rw [e, List.length_append, List.length_cons, Nat.add_mul, Nat.one_mul]
    have : (lineT y).length = y.1 + y.2.length + 1 := by simp [lineT]; omega
    omega
end Go.Proofs.YtlhbledakddbbaaGreatDoor
/- The document's line of a variable. -/
namespace Go.Proofs.YtlhbledakddbbaaGreatDoor
open Go.RowKit

set_option maxRecDepth 100000 in
set_option maxHeartbeats 6400000 in
theorem rvarLine_1 (nm : List UInt8) (sz : Int) (sc : Bool) (w : World) (hl : nm.length ≤ 1000000) :
    Calls Tryz.prog 59 #[.agg #[.string (str nm), .int .i64 1, .int .i64 sz, .bool sc]] w fun z w' => z = .returned (.string (str (([118, 97, 114, 32] ++ nm) ++ [59]))) ∧ Below w.heap.size w w' := by
  have hlen := hl
  obtain ⟨NM, hNM⟩ : ∃ A, A = str (nm) := ⟨_, rfl⟩
  obtain ⟨B3, hB3⟩ : ∃ B, B = str ([118, 97, 114, 32] ++ nm) := ⟨_, rfl⟩
  obtain ⟨B4, hB4⟩ : ∃ B, B = str (([118, 97, 114, 32] ++ nm) ++ [59]) := ⟨_, rfl⟩
  have qB3 : ∀ w : World, (Op.stringOp .add ⟨#[118, 97, 114, 32]⟩ NM).run Tryz.prog w = .ok (.string B3) w := fun w => by
    (try rw [hB3]); (try rw [hNM]); exact add_str ([118, 97, 114, 32]) (nm) (by simp only [List.length_cons, List.length_nil] at hlen ⊢; omega) w
  have qB4 : ∀ w : World, (Op.stringOp .add B3 ⟨#[59]⟩).run Tryz.prog w = .ok (.string B4) w := fun w => by
    (try rw [hB4]); (try rw [hB3]); exact add_str (([118, 97, 114, 32] ++ nm)) ([59]) (by simp only [List.length_append, List.length_cons, List.length_nil] at hlen ⊢; omega) w
  obtain ⟨W1, hW1⟩ : ∃ W1, w.alloc (.cells #[.string NM, .int .i64 1, .int .i64 sz, .bool sc] 80) = W1 := ⟨_, rfl⟩
  have hk : W1.heap[w.heap.size]? = some (.cells #[.string NM, .int .i64 1, .int .i64 sz, .bool sc] 80 (0, 0)) := by rw [← hW1]; exact heap_alloc_new w _
  have HB1 := Lib.hid (show Below w.heap.size w W1 by rw [← hW1]; exact (Below.refl _ _).alloc (Nat.le_refl _) _)
  have x0 : W1.cell? ⟨w.heap.size, 0, none⟩ = some (.string NM) := cell_block hk rfl
  have x1 : W1.cell? ⟨w.heap.size, 1, none⟩ = some (.int .i64 1) := cell_block hk rfl
  have HF := Lib.hid (show str (([118, 97, 114, 32] ++ nm) ++ [59]) = B4 by rw [hB4])
  rw [← hNM]
  clear hNM hB3 hB4 hk
  go_enter Tryz.func59, Tryz.ntmps59
  go_wp2_with fail
  go_ret
  exact ⟨ret_strE HF.out.symm, HB1.out⟩
set_option maxRecDepth 100000 in
set_option maxHeartbeats 6400000 in
theorem rvarLine_2 (nm : List UInt8) (sz : Int) (sc : Bool) (hsz : 0 ≤ sz) (hsu : sz ≤ 9223372036854775807) (w : World) (hG : Glob w) (hlen : nm.length + (Lib.decDigits sz.toNat).length + (secT sc).length ≤ 1000000) :
    Calls Tryz.prog 59 #[.agg #[.string (str nm), .int .i64 2, .int .i64 sz, .bool sc]] w fun z w' => z = .returned (.string (str ((((([97, 114, 114, 97, 121, 32] ++ nm) ++ [32]) ++ Lib.decDigits sz.toNat) ++ secT sc) ++ [59]))) ∧ Below w.heap.size w w' := by
  obtain ⟨NM, hNM⟩ : ∃ A, A = str (nm) := ⟨_, rfl⟩
  obtain ⟨A1, hA1⟩ : ∃ A, A = str (Lib.decDigits sz.toNat) := ⟨_, rfl⟩
  obtain ⟨A2, hA2⟩ : ∃ A, A = str (secT sc) := ⟨_, rfl⟩
  obtain ⟨W1, hW1⟩ : ∃ W1, w.alloc (.cells #[.string NM, .int .i64 2, .int .i64 sz, .bool sc] 80) = W1 := ⟨_, rfl⟩
  have hB1 : Below w.heap.size w W1 := by rw [← hW1]; exact (Below.refl _ _).alloc (Nat.le_refl _) _
  have hz1 : W1.heap.size = w.heap.size + 1 := by rw [← hW1]; simp
  have hk : W1.heap[w.heap.size]? = some (.cells #[.string NM, .int .i64 2, .int .i64 sz, .bool sc] 80 (0, 0)) := by rw [← hW1]; exact heap_alloc_new w _
  have ht1 : w.heap.size < W1.heap.size := by omega
  have hG1 := hG.later hB1
  have HB1 := Lib.hid hB1
  have HSz := Lib.hid (fun (w1 : World) (hB : Below W1.heap.size W1 w1) => itoa_any sz hsz hsu w1 (hG1.later hB))
  have HSc : ∀ w : World, Calls Tryz.prog 57 #[.bool sc] w fun e w' => e = .returned (.string A2) ∧ w = w' := fun w => by rw [hA2]; exact rsecret_any sc w
  have HSec := Lib.hid HSc
  rw [← hA1] at HSz
  have x0 : W1.cell? ⟨w.heap.size, 0, none⟩ = some (.string NM) := cell_block hk rfl
  have x1 : W1.cell? ⟨w.heap.size, 1, none⟩ = some (.int .i64 2) := cell_block hk rfl
  have x2 : W1.cell? ⟨w.heap.size, 2, none⟩ = some (.int .i64 sz) := cell_block hk rfl
  have x3 : W1.cell? ⟨w.heap.size, 3, none⟩ = some (.bool sc) := cell_block hk rfl
  obtain ⟨B2, hB2⟩ : ∃ B, B = str ([97, 114, 114, 97, 121, 32] ++ nm) := ⟨_, rfl⟩
  obtain ⟨B3, hB3⟩ : ∃ B, B = str (([97, 114, 114, 97, 121, 32] ++ nm) ++ [32]) := ⟨_, rfl⟩
  obtain ⟨B7, hB7⟩ : ∃ B, B = str ((([97, 114, 114, 97, 121, 32] ++ nm) ++ [32]) ++ Lib.decDigits sz.toNat) := ⟨_, rfl⟩
  obtain ⟨B11, hB11⟩ : ∃ B, B = str (((([97, 114, 114, 97, 121, 32] ++ nm) ++ [32]) ++ Lib.decDigits sz.toNat) ++ secT sc) := ⟨_, rfl⟩
  obtain ⟨B12, hB12⟩ : ∃ B, B = str ((((([97, 114, 114, 97, 121, 32] ++ nm) ++ [32]) ++ Lib.decDigits sz.toNat) ++ secT sc) ++ [59]) := ⟨_, rfl⟩
  have qB2 : ∀ w : World, (Op.stringOp .add ⟨#[97, 114, 114, 97, 121, 32]⟩ NM).run Tryz.prog w = .ok (.string B2) w := fun w => by
    (try rw [hB2]); (try rw [hNM]); exact add_str ([97, 114, 114, 97, 121, 32]) (nm) (by simp only [List.length_cons, List.length_nil] at hlen ⊢; omega) w
  have qB3 : ∀ w : World, (Op.stringOp .add B2 ⟨#[32]⟩).run Tryz.prog w = .ok (.string B3) w := fun w => by
    (try rw [hB3]); (try rw [hB2]); exact add_str (([97, 114, 114, 97, 121, 32] ++ nm)) ([32]) (by simp only [List.length_append, List.length_cons, List.length_nil] at hlen ⊢; omega) w
  have qB7 : ∀ w : World, (Op.stringOp .add B3 A1).run Tryz.prog w = .ok (.string B7) w := fun w => by
    (try rw [hB7]); (try rw [hB3]); (try rw [hA1]); exact add_str ((([97, 114, 114, 97, 121, 32] ++ nm) ++ [32])) (Lib.decDigits sz.toNat) (by simp only [List.length_append, List.length_cons, List.length_nil] at hlen ⊢; omega) w
  have qB11 : ∀ w : World, (Op.stringOp .add B7 A2).run Tryz.prog w = .ok (.string B11) w := fun w => by
    (try rw [hB11]); (try rw [hB7]); (try rw [hA2]); exact add_str (((([97, 114, 114, 97, 121, 32] ++ nm) ++ [32]) ++ Lib.decDigits sz.toNat)) (secT sc) (by simp only [List.length_append, List.length_cons, List.length_nil] at hlen ⊢; omega) w
  have qB12 : ∀ w : World, (Op.stringOp .add B11 ⟨#[59]⟩).run Tryz.prog w = .ok (.string B12) w := fun w => by
    (try rw [hB12]); (try rw [hB11]); exact add_str ((((([97, 114, 114, 97, 121, 32] ++ nm) ++ [32]) ++ Lib.decDigits sz.toNat) ++ secT sc)) ([59]) (by simp only [List.length_append, List.length_cons, List.length_nil] at hlen ⊢; omega) w
  have HF := Lib.hid (show str ((((([97, 114, 114, 97, 121, 32] ++ nm) ++ [32]) ++ Lib.decDigits sz.toNat) ++ secT sc) ++ [59]) = B12 by rw [hB12])
  rw [← hNM]
  clear hNM hA1 hA2 HSc hB2 hB3 hB7 hB11 hB12 hk hG hG1 hB1 hsz hsu
  go_enter Tryz.func59, Tryz.ntmps59
  go_wp2_with fail
  try rw [hW1]
  clear hW1
  have HS : Below W1.heap.size W1 W1.drew := (Below.refl _ _).drew
  refine wp_region_held_drew (S := fun W => Below W1.heap.size W1 W ∧ W.cell? ⟨w.heap.size, 0, none⟩ = some (.string NM) ∧ W.cell? ⟨w.heap.size, 2, none⟩ = some (.int .i64 sz) ∧ W.cell? ⟨w.heap.size, 3, none⟩ = some (.bool sc)) (by kernel_rfl) ?_ (fun hHeld => ?_)
  · exact ⟨HS, (HS.cell ht1).trans x0, (HS.cell ht1).trans x2, (HS.cell ht1).trans x3⟩
  refine wpAnyH_take (i := 0) (oi := ⟨some 7, .fieldAddr 80 (.tmp 1) 0, 0, "ref.go:299", #[], none⟩) (v := ?_) rfl (by kernel_rfl) (by kernel_rfl) (by kernel_rfl) (fun _ _ _ h => h) (Or.inl ⟨by rfl, ?_⟩) (by assumption) ?_
  rotate_left
  · (intro w hSw; (try dsimp only at hSw); go_simp; try with_reducible rfl)
  try simp only [Act.put, List.setIfInBounds_toArray, List.set_cons_zero, List.set_cons_succ]
  refine wpAnyH_take (i := 1) (oi := ⟨some 8, .load 9 (.tmp 7), 9, "ref.go:299", #[⟨0, .data⟩], none⟩) (v := ?_) rfl (by kernel_rfl) (by kernel_rfl) (by kernel_rfl) (fun _ _ _ h => h) (Or.inl ⟨by rfl, ?_⟩) (by assumption) ?_
  rotate_left
  · (intro w hSw; (try dsimp only at hSw); go_simp; try with_reducible rfl)
  try simp only [Act.put, List.setIfInBounds_toArray, List.set_cons_zero, List.set_cons_succ]
  refine wpAnyH_take (i := 2) (oi := ⟨some 9, .binOp .add 9 (.const (.string ⟨#[97, 114, 114, 97, 121, 32]⟩)) (.tmp 8) 9, 9, "ref.go:299", #[⟨1, .data⟩], none⟩) (v := .string B2) rfl (by kernel_rfl) (by kernel_rfl) (by kernel_rfl) (fun _ _ _ h => h) (Or.inl ⟨by rfl, ?_⟩) (by assumption) ?_
  · (intro w hSw; (try dsimp only at hSw); go_simp)
  try simp only [Act.put, List.setIfInBounds_toArray, List.set_cons_zero, List.set_cons_succ]
  refine wpAnyH_take (i := 3) (oi := ⟨some 10, .binOp .add 9 (.tmp 9) (.const (.string ⟨#[32]⟩)) 9, 9, "ref.go:299", #[⟨2, .data⟩], none⟩) (v := .string B3) rfl (by kernel_rfl) (by kernel_rfl) (by kernel_rfl) (fun _ _ _ h => h) (Or.inl ⟨by rfl, ?_⟩) (by assumption) ?_
  · (intro w hSw; (try dsimp only at hSw); go_simp)
  try simp only [Act.put, List.setIfInBounds_toArray, List.set_cons_zero, List.set_cons_succ]
  refine wpAnyH_take (i := 4) (oi := ⟨some 11, .fieldAddr 80 (.tmp 1) 2, 0, "ref.go:299", #[], none⟩) (v := ?_) rfl (by kernel_rfl) (by kernel_rfl) (by kernel_rfl) (fun _ _ _ h => h) (Or.inl ⟨by rfl, ?_⟩) (by assumption) ?_
  rotate_left
  · (intro w hSw; (try dsimp only at hSw); go_simp; try with_reducible rfl)
  try simp only [Act.put, List.setIfInBounds_toArray, List.set_cons_zero, List.set_cons_succ]
  refine wpAnyH_take (i := 5) (oi := ⟨some 12, .load 3 (.tmp 11), 3, "ref.go:299", #[⟨4, .data⟩], none⟩) (v := ?_) rfl (by kernel_rfl) (by kernel_rfl) (by kernel_rfl) (fun _ _ _ h => h) (Or.inl ⟨by rfl, ?_⟩) (by assumption) ?_
  rotate_left
  · (intro w hSw; (try dsimp only at hSw); go_simp; try with_reducible rfl)
  try simp only [Act.put, List.setIfInBounds_toArray, List.set_cons_zero, List.set_cons_succ]
  refine wpAnyH_take (i := 8) (oi := ⟨some 15, .fieldAddr 80 (.tmp 1) 3, 0, "ref.go:299", #[], none⟩) (v := ?_) rfl (by kernel_rfl) (by kernel_rfl) (by kernel_rfl) (fun _ _ _ h => h) (Or.inl ⟨by rfl, ?_⟩) (by assumption) ?_
  rotate_left
  · (intro w hSw; (try dsimp only at hSw); go_simp; try with_reducible rfl)
  try simp only [Act.put, List.setIfInBounds_toArray, List.set_cons_zero, List.set_cons_succ]
  refine wpAnyH_take (i := 9) (oi := ⟨some 16, .load 4 (.tmp 15), 4, "ref.go:299", #[⟨8, .data⟩], none⟩) (v := ?_) rfl (by kernel_rfl) (by kernel_rfl) (by kernel_rfl) (fun _ _ _ h => h) (Or.inl ⟨by rfl, ?_⟩) (by assumption) ?_
  rotate_left
  · (intro w hSw; (try dsimp only at hSw); go_simp; try with_reducible rfl)
  try simp only [Act.put, List.setIfInBounds_toArray, List.set_cons_zero, List.set_cons_succ]
  refine wpAnyH_ready (rs := [6]) (by kernel_rfl) (by simp) ?_
  refine AllReadyH.cons (o := ⟨some 13, .call { callee := .value (.func 56), args := #[.tmp 12], argTypes := #[3] }, 9, "ref.go:299", #[⟨5, .data⟩], none⟩) rfl (fun K hK => ?_) AllReadyH.nil
  go_simp
  refine (HSz.out _ HS).mono ?_
  rintro z wa ⟨rfl, hB'⟩
  replace HS := HS.trans (hB'.mono HS.size)
  clear hB'
  refine hK.out _ _ ?_ (fun hHeld => ?_)
  · exact ⟨HS, (HS.cell ht1).trans x0, (HS.cell ht1).trans x2, (HS.cell ht1).trans x3⟩
  clear hK K
  try simp only [Act.put, List.setIfInBounds_toArray, List.set_cons_zero, List.set_cons_succ]
  refine wpAnyH_take (i := 7) (oi := ⟨some 14, .binOp .add 9 (.tmp 10) (.tmp 13) 9, 9, "ref.go:299", #[⟨3, .data⟩, ⟨6, .data⟩], none⟩) (v := .string B7) rfl (by kernel_rfl) (by kernel_rfl) (by kernel_rfl) (fun _ _ _ h => h) (Or.inl ⟨by rfl, ?_⟩) (by assumption) ?_
  · (intro w hSw; (try dsimp only at hSw); go_simp)
  try simp only [Act.put, List.setIfInBounds_toArray, List.set_cons_zero, List.set_cons_succ]
  refine wpAnyH_ready (rs := [10]) (by kernel_rfl) (by simp) ?_
  refine AllReadyH.cons (o := ⟨some 17, .call { callee := .value (.func 57), args := #[.tmp 16], argTypes := #[4] }, 9, "ref.go:299", #[⟨9, .data⟩, ⟨6, .chain⟩], none⟩) rfl (fun K hK => ?_) AllReadyH.nil
  go_simp
  refine (HSec.out _).mono ?_
  rintro z wa ⟨rfl, rfl⟩
  refine hK.out _ _ ?_ (fun hHeld => ?_)
  · exact ⟨HS, (HS.cell ht1).trans x0, (HS.cell ht1).trans x2, (HS.cell ht1).trans x3⟩
  clear hK K
  try simp only [Act.put, List.setIfInBounds_toArray, List.set_cons_zero, List.set_cons_succ]
  refine wpAnyH_take (i := 11) (oi := ⟨some 18, .binOp .add 9 (.tmp 14) (.tmp 17) 9, 9, "ref.go:299", #[⟨7, .data⟩, ⟨10, .data⟩], none⟩) (v := .string B11) rfl (by kernel_rfl) (by kernel_rfl) (by kernel_rfl) (fun _ _ _ h => h) (Or.inl ⟨by rfl, ?_⟩) (by assumption) ?_
  · (intro w hSw; (try dsimp only at hSw); go_simp)
  try simp only [Act.put, List.setIfInBounds_toArray, List.set_cons_zero, List.set_cons_succ]
  refine wpAnyH_take (i := 12) (oi := ⟨some 19, .binOp .add 9 (.tmp 18) (.const (.string ⟨#[59]⟩)) 9, 9, "ref.go:299", #[⟨11, .data⟩], none⟩) (v := .string B12) rfl (by kernel_rfl) (by kernel_rfl) (by kernel_rfl) (fun _ _ _ h => h) (Or.inl ⟨by rfl, ?_⟩) (by assumption) ?_
  · (intro w hSw; (try dsimp only at hSw); go_simp)
  try simp only [Act.put, List.setIfInBounds_toArray, List.set_cons_zero, List.set_cons_succ]
  refine wpAnyH_take (i := 13) (oi := ⟨some 2, .assign (.tmp 19), 9, "ref.go:299", #[⟨12, .data⟩, ⟨10, .chain⟩, ⟨0, .phase⟩, ⟨1, .phase⟩, ⟨2, .phase⟩, ⟨3, .phase⟩, ⟨4, .phase⟩, ⟨5, .phase⟩, ⟨6, .phase⟩, ⟨7, .phase⟩, ⟨8, .phase⟩, ⟨9, .phase⟩, ⟨10, .phase⟩, ⟨11, .phase⟩, ⟨12, .phase⟩], none⟩) (v := ?_) rfl (by kernel_rfl) (by kernel_rfl) (by kernel_rfl) (fun _ _ _ h => h) (Or.inl ⟨by rfl, ?_⟩) (by assumption) ?_
  rotate_left
  · (intro w hSw; (try dsimp only at hSw); go_simp; try with_reducible rfl)
  try simp only [Act.put, List.setIfInBounds_toArray, List.set_cons_zero, List.set_cons_succ]
  refine wpAnyH_done (by kernel_rfl) ?_ _
  have HE := Lib.hid (HB1.out.trans (HS.mono HB1.out.size))
  go_wp2_with fail
  go_ret
  exact ⟨ret_strE HF.out.symm, HE.out⟩
set_option maxRecDepth 100000 in
set_option maxHeartbeats 6400000 in
theorem rvarLine_3 (nm : List UInt8) (sz : Int) (sc : Bool) (hsz : 0 ≤ sz) (hsu : sz ≤ 9223372036854775807) (w : World) (hG : Glob w) (hlen : nm.length + (Lib.decDigits sz.toNat).length + (secT sc).length ≤ 1000000) :
    Calls Tryz.prog 59 #[.agg #[.string (str nm), .int .i64 3, .int .i64 sz, .bool sc]] w fun z w' => z = .returned (.string (str ((((([115, 116, 97, 99, 107, 32] ++ nm) ++ [32]) ++ Lib.decDigits sz.toNat) ++ secT sc) ++ [59]))) ∧ Below w.heap.size w w' := by
  obtain ⟨NM, hNM⟩ : ∃ A, A = str (nm) := ⟨_, rfl⟩
  obtain ⟨A1, hA1⟩ : ∃ A, A = str (Lib.decDigits sz.toNat) := ⟨_, rfl⟩
  obtain ⟨A2, hA2⟩ : ∃ A, A = str (secT sc) := ⟨_, rfl⟩
  obtain ⟨W1, hW1⟩ : ∃ W1, w.alloc (.cells #[.string NM, .int .i64 3, .int .i64 sz, .bool sc] 80) = W1 := ⟨_, rfl⟩
  have hB1 : Below w.heap.size w W1 := by rw [← hW1]; exact (Below.refl _ _).alloc (Nat.le_refl _) _
  have hz1 : W1.heap.size = w.heap.size + 1 := by rw [← hW1]; simp
  have hk : W1.heap[w.heap.size]? = some (.cells #[.string NM, .int .i64 3, .int .i64 sz, .bool sc] 80 (0, 0)) := by rw [← hW1]; exact heap_alloc_new w _
  have ht1 : w.heap.size < W1.heap.size := by omega
  have hG1 := hG.later hB1
  have HB1 := Lib.hid hB1
  have HSz := Lib.hid (fun (w1 : World) (hB : Below W1.heap.size W1 w1) => itoa_any sz hsz hsu w1 (hG1.later hB))
  have HSc : ∀ w : World, Calls Tryz.prog 57 #[.bool sc] w fun e w' => e = .returned (.string A2) ∧ w = w' := fun w => by rw [hA2]; exact rsecret_any sc w
  have HSec := Lib.hid HSc
  rw [← hA1] at HSz
  have x0 : W1.cell? ⟨w.heap.size, 0, none⟩ = some (.string NM) := cell_block hk rfl
  have x1 : W1.cell? ⟨w.heap.size, 1, none⟩ = some (.int .i64 3) := cell_block hk rfl
  have x2 : W1.cell? ⟨w.heap.size, 2, none⟩ = some (.int .i64 sz) := cell_block hk rfl
  have x3 : W1.cell? ⟨w.heap.size, 3, none⟩ = some (.bool sc) := cell_block hk rfl
  obtain ⟨B2, hB2⟩ : ∃ B, B = str ([115, 116, 97, 99, 107, 32] ++ nm) := ⟨_, rfl⟩
  obtain ⟨B3, hB3⟩ : ∃ B, B = str (([115, 116, 97, 99, 107, 32] ++ nm) ++ [32]) := ⟨_, rfl⟩
  obtain ⟨B7, hB7⟩ : ∃ B, B = str ((([115, 116, 97, 99, 107, 32] ++ nm) ++ [32]) ++ Lib.decDigits sz.toNat) := ⟨_, rfl⟩
  obtain ⟨B11, hB11⟩ : ∃ B, B = str (((([115, 116, 97, 99, 107, 32] ++ nm) ++ [32]) ++ Lib.decDigits sz.toNat) ++ secT sc) := ⟨_, rfl⟩
  obtain ⟨B12, hB12⟩ : ∃ B, B = str ((((([115, 116, 97, 99, 107, 32] ++ nm) ++ [32]) ++ Lib.decDigits sz.toNat) ++ secT sc) ++ [59]) := ⟨_, rfl⟩
  have qB2 : ∀ w : World, (Op.stringOp .add ⟨#[115, 116, 97, 99, 107, 32]⟩ NM).run Tryz.prog w = .ok (.string B2) w := fun w => by
    (try rw [hB2]); (try rw [hNM]); exact add_str ([115, 116, 97, 99, 107, 32]) (nm) (by simp only [List.length_cons, List.length_nil] at hlen ⊢; omega) w
  have qB3 : ∀ w : World, (Op.stringOp .add B2 ⟨#[32]⟩).run Tryz.prog w = .ok (.string B3) w := fun w => by
    (try rw [hB3]); (try rw [hB2]); exact add_str (([115, 116, 97, 99, 107, 32] ++ nm)) ([32]) (by simp only [List.length_append, List.length_cons, List.length_nil] at hlen ⊢; omega) w
  have qB7 : ∀ w : World, (Op.stringOp .add B3 A1).run Tryz.prog w = .ok (.string B7) w := fun w => by
    (try rw [hB7]); (try rw [hB3]); (try rw [hA1]); exact add_str ((([115, 116, 97, 99, 107, 32] ++ nm) ++ [32])) (Lib.decDigits sz.toNat) (by simp only [List.length_append, List.length_cons, List.length_nil] at hlen ⊢; omega) w
  have qB11 : ∀ w : World, (Op.stringOp .add B7 A2).run Tryz.prog w = .ok (.string B11) w := fun w => by
    (try rw [hB11]); (try rw [hB7]); (try rw [hA2]); exact add_str (((([115, 116, 97, 99, 107, 32] ++ nm) ++ [32]) ++ Lib.decDigits sz.toNat)) (secT sc) (by simp only [List.length_append, List.length_cons, List.length_nil] at hlen ⊢; omega) w
  have qB12 : ∀ w : World, (Op.stringOp .add B11 ⟨#[59]⟩).run Tryz.prog w = .ok (.string B12) w := fun w => by
    (try rw [hB12]); (try rw [hB11]); exact add_str ((((([115, 116, 97, 99, 107, 32] ++ nm) ++ [32]) ++ Lib.decDigits sz.toNat) ++ secT sc)) ([59]) (by simp only [List.length_append, List.length_cons, List.length_nil] at hlen ⊢; omega) w
  have HF := Lib.hid (show str ((((([115, 116, 97, 99, 107, 32] ++ nm) ++ [32]) ++ Lib.decDigits sz.toNat) ++ secT sc) ++ [59]) = B12 by rw [hB12])
  rw [← hNM]
  clear hNM hA1 hA2 HSc hB2 hB3 hB7 hB11 hB12 hk hG hG1 hB1 hsz hsu
  go_enter Tryz.func59, Tryz.ntmps59
  go_wp2_with fail
  try rw [hW1]
  clear hW1
  have HS : Below W1.heap.size W1 W1.drew := (Below.refl _ _).drew
  refine wp_region_held_drew (S := fun W => Below W1.heap.size W1 W ∧ W.cell? ⟨w.heap.size, 0, none⟩ = some (.string NM) ∧ W.cell? ⟨w.heap.size, 2, none⟩ = some (.int .i64 sz) ∧ W.cell? ⟨w.heap.size, 3, none⟩ = some (.bool sc)) (by kernel_rfl) ?_ (fun hHeld => ?_)
  · exact ⟨HS, (HS.cell ht1).trans x0, (HS.cell ht1).trans x2, (HS.cell ht1).trans x3⟩
  refine wpAnyH_take (i := 0) (oi := ⟨some 22, .fieldAddr 80 (.tmp 1) 0, 0, "ref.go:301", #[], none⟩) (v := ?_) rfl (by kernel_rfl) (by kernel_rfl) (by kernel_rfl) (fun _ _ _ h => h) (Or.inl ⟨by rfl, ?_⟩) (by assumption) ?_
  rotate_left
  · (intro w hSw; (try dsimp only at hSw); go_simp; try with_reducible rfl)
  try simp only [Act.put, List.setIfInBounds_toArray, List.set_cons_zero, List.set_cons_succ]
  refine wpAnyH_take (i := 1) (oi := ⟨some 23, .load 9 (.tmp 22), 9, "ref.go:301", #[⟨0, .data⟩], none⟩) (v := ?_) rfl (by kernel_rfl) (by kernel_rfl) (by kernel_rfl) (fun _ _ _ h => h) (Or.inl ⟨by rfl, ?_⟩) (by assumption) ?_
  rotate_left
  · (intro w hSw; (try dsimp only at hSw); go_simp; try with_reducible rfl)
  try simp only [Act.put, List.setIfInBounds_toArray, List.set_cons_zero, List.set_cons_succ]
  refine wpAnyH_take (i := 2) (oi := ⟨some 24, .binOp .add 9 (.const (.string ⟨#[115, 116, 97, 99, 107, 32]⟩)) (.tmp 23) 9, 9, "ref.go:301", #[⟨1, .data⟩], none⟩) (v := .string B2) rfl (by kernel_rfl) (by kernel_rfl) (by kernel_rfl) (fun _ _ _ h => h) (Or.inl ⟨by rfl, ?_⟩) (by assumption) ?_
  · (intro w hSw; (try dsimp only at hSw); go_simp)
  try simp only [Act.put, List.setIfInBounds_toArray, List.set_cons_zero, List.set_cons_succ]
  refine wpAnyH_take (i := 3) (oi := ⟨some 25, .binOp .add 9 (.tmp 24) (.const (.string ⟨#[32]⟩)) 9, 9, "ref.go:301", #[⟨2, .data⟩], none⟩) (v := .string B3) rfl (by kernel_rfl) (by kernel_rfl) (by kernel_rfl) (fun _ _ _ h => h) (Or.inl ⟨by rfl, ?_⟩) (by assumption) ?_
  · (intro w hSw; (try dsimp only at hSw); go_simp)
  try simp only [Act.put, List.setIfInBounds_toArray, List.set_cons_zero, List.set_cons_succ]
  refine wpAnyH_take (i := 4) (oi := ⟨some 26, .fieldAddr 80 (.tmp 1) 2, 0, "ref.go:301", #[], none⟩) (v := ?_) rfl (by kernel_rfl) (by kernel_rfl) (by kernel_rfl) (fun _ _ _ h => h) (Or.inl ⟨by rfl, ?_⟩) (by assumption) ?_
  rotate_left
  · (intro w hSw; (try dsimp only at hSw); go_simp; try with_reducible rfl)
  try simp only [Act.put, List.setIfInBounds_toArray, List.set_cons_zero, List.set_cons_succ]
  refine wpAnyH_take (i := 5) (oi := ⟨some 27, .load 3 (.tmp 26), 3, "ref.go:301", #[⟨4, .data⟩], none⟩) (v := ?_) rfl (by kernel_rfl) (by kernel_rfl) (by kernel_rfl) (fun _ _ _ h => h) (Or.inl ⟨by rfl, ?_⟩) (by assumption) ?_
  rotate_left
  · (intro w hSw; (try dsimp only at hSw); go_simp; try with_reducible rfl)
  try simp only [Act.put, List.setIfInBounds_toArray, List.set_cons_zero, List.set_cons_succ]
  refine wpAnyH_take (i := 8) (oi := ⟨some 30, .fieldAddr 80 (.tmp 1) 3, 0, "ref.go:301", #[], none⟩) (v := ?_) rfl (by kernel_rfl) (by kernel_rfl) (by kernel_rfl) (fun _ _ _ h => h) (Or.inl ⟨by rfl, ?_⟩) (by assumption) ?_
  rotate_left
  · (intro w hSw; (try dsimp only at hSw); go_simp; try with_reducible rfl)
  try simp only [Act.put, List.setIfInBounds_toArray, List.set_cons_zero, List.set_cons_succ]
  refine wpAnyH_take (i := 9) (oi := ⟨some 31, .load 4 (.tmp 30), 4, "ref.go:301", #[⟨8, .data⟩], none⟩) (v := ?_) rfl (by kernel_rfl) (by kernel_rfl) (by kernel_rfl) (fun _ _ _ h => h) (Or.inl ⟨by rfl, ?_⟩) (by assumption) ?_
  rotate_left
  · (intro w hSw; (try dsimp only at hSw); go_simp; try with_reducible rfl)
  try simp only [Act.put, List.setIfInBounds_toArray, List.set_cons_zero, List.set_cons_succ]
  refine wpAnyH_ready (rs := [6]) (by kernel_rfl) (by simp) ?_
  refine AllReadyH.cons (o := ⟨some 28, .call { callee := .value (.func 56), args := #[.tmp 27], argTypes := #[3] }, 9, "ref.go:301", #[⟨5, .data⟩], none⟩) rfl (fun K hK => ?_) AllReadyH.nil
  go_simp
  refine (HSz.out _ HS).mono ?_
  rintro z wa ⟨rfl, hB'⟩
  replace HS := HS.trans (hB'.mono HS.size)
  clear hB'
  refine hK.out _ _ ?_ (fun hHeld => ?_)
  · exact ⟨HS, (HS.cell ht1).trans x0, (HS.cell ht1).trans x2, (HS.cell ht1).trans x3⟩
  clear hK K
  try simp only [Act.put, List.setIfInBounds_toArray, List.set_cons_zero, List.set_cons_succ]
  refine wpAnyH_take (i := 7) (oi := ⟨some 29, .binOp .add 9 (.tmp 25) (.tmp 28) 9, 9, "ref.go:301", #[⟨3, .data⟩, ⟨6, .data⟩], none⟩) (v := .string B7) rfl (by kernel_rfl) (by kernel_rfl) (by kernel_rfl) (fun _ _ _ h => h) (Or.inl ⟨by rfl, ?_⟩) (by assumption) ?_
  · (intro w hSw; (try dsimp only at hSw); go_simp)
  try simp only [Act.put, List.setIfInBounds_toArray, List.set_cons_zero, List.set_cons_succ]
  refine wpAnyH_ready (rs := [10]) (by kernel_rfl) (by simp) ?_
  refine AllReadyH.cons (o := ⟨some 32, .call { callee := .value (.func 57), args := #[.tmp 31], argTypes := #[4] }, 9, "ref.go:301", #[⟨9, .data⟩, ⟨6, .chain⟩], none⟩) rfl (fun K hK => ?_) AllReadyH.nil
  go_simp
  refine (HSec.out _).mono ?_
  rintro z wa ⟨rfl, rfl⟩
  refine hK.out _ _ ?_ (fun hHeld => ?_)
  · exact ⟨HS, (HS.cell ht1).trans x0, (HS.cell ht1).trans x2, (HS.cell ht1).trans x3⟩
  clear hK K
  try simp only [Act.put, List.setIfInBounds_toArray, List.set_cons_zero, List.set_cons_succ]
  refine wpAnyH_take (i := 11) (oi := ⟨some 33, .binOp .add 9 (.tmp 29) (.tmp 32) 9, 9, "ref.go:301", #[⟨7, .data⟩, ⟨10, .data⟩], none⟩) (v := .string B11) rfl (by kernel_rfl) (by kernel_rfl) (by kernel_rfl) (fun _ _ _ h => h) (Or.inl ⟨by rfl, ?_⟩) (by assumption) ?_
  · (intro w hSw; (try dsimp only at hSw); go_simp)
  try simp only [Act.put, List.setIfInBounds_toArray, List.set_cons_zero, List.set_cons_succ]
  refine wpAnyH_take (i := 12) (oi := ⟨some 34, .binOp .add 9 (.tmp 33) (.const (.string ⟨#[59]⟩)) 9, 9, "ref.go:301", #[⟨11, .data⟩], none⟩) (v := .string B12) rfl (by kernel_rfl) (by kernel_rfl) (by kernel_rfl) (fun _ _ _ h => h) (Or.inl ⟨by rfl, ?_⟩) (by assumption) ?_
  · (intro w hSw; (try dsimp only at hSw); go_simp)
  try simp only [Act.put, List.setIfInBounds_toArray, List.set_cons_zero, List.set_cons_succ]
  refine wpAnyH_take (i := 13) (oi := ⟨some 2, .assign (.tmp 34), 9, "ref.go:301", #[⟨12, .data⟩, ⟨10, .chain⟩, ⟨0, .phase⟩, ⟨1, .phase⟩, ⟨2, .phase⟩, ⟨3, .phase⟩, ⟨4, .phase⟩, ⟨5, .phase⟩, ⟨6, .phase⟩, ⟨7, .phase⟩, ⟨8, .phase⟩, ⟨9, .phase⟩, ⟨10, .phase⟩, ⟨11, .phase⟩, ⟨12, .phase⟩], none⟩) (v := ?_) rfl (by kernel_rfl) (by kernel_rfl) (by kernel_rfl) (fun _ _ _ h => h) (Or.inl ⟨by rfl, ?_⟩) (by assumption) ?_
  rotate_left
  · (intro w hSw; (try dsimp only at hSw); go_simp; try with_reducible rfl)
  try simp only [Act.put, List.setIfInBounds_toArray, List.set_cons_zero, List.set_cons_succ]
  refine wpAnyH_done (by kernel_rfl) ?_ _
  have HE := Lib.hid (HB1.out.trans (HS.mono HB1.out.size))
  go_wp2_with fail
  go_ret
  exact ⟨ret_strE HF.out.symm, HE.out⟩
theorem rvariable_any (x : Vr) (hm : x.may = true) (hf : x.fit) (w : World) (hG : Glob w) (hl : x.line.length ≤ 1000000) :
    Calls Tryz.prog 59 #[.agg #[.string (str x.name), .int .i64 x.kind, .int .i64 x.size, .bool x.secret]] w fun z w' => z = .returned (.string (str x.line)) ∧ Below w.heap.size w w' := by
  obtain ⟨nm, kd, sz, sc⟩ := x
  unfold Vr.may Vr.mayP at hm
  unfold Vr.line Vr.word at hl ⊢
  obtain ⟨_, hsu⟩ := hf
  simp only [] at hm hl hsu ⊢
  by_cases h1 : kd = 1
  · subst h1
    rw [if_pos rfl] at hl ⊢
    simp only [List.length_append, List.length_cons, List.length_nil] at hl
    exact rvarLine_1 nm sz sc w (by omega)
  · rw [if_neg h1] at hm hl ⊢
    by_cases h2 : kd = 2
    · subst h2
      simp only [if_true, true_or, Bool.and_eq_true, decide_eq_true_eq] at hm hl ⊢
      simp only [List.length_append, List.length_cons, List.length_nil] at hl
      exact rvarLine_2 nm sz sc hm.2 hsu w hG (by omega)
    · by_cases h3 : kd = 3
      · subst h3
        rw [if_neg h2] at hl ⊢
        simp only [or_true, if_true, Bool.and_eq_true, decide_eq_true_eq] at hm
        simp only [List.length_append, List.length_cons, List.length_nil] at hl
        exact rvarLine_3 nm sz sc hm.2 hsu w hG (by omega)
      · rw [if_neg (by omega)] at hm; cases hm
end Go.Proofs.YtlhbledakddbbaaGreatDoor
