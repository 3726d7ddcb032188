/- F5, L0, R4, G1, G2, H1, H3, V0, I1 as one. -/
import Derived.Lib.Join
import Derived.Lib.ItoaLen
import Derived.WalkMore
import Derived.Deep.CutBlock
import Derived.Deep.CutRange
import Derived.Deep.RegionHeld
import Derived.Deep.RegionHeld3
import Derived.Test.YtlhbledakddbbaaGreatDoorRows
import Derived.WalkKit
import Derived.ProofKit
import Derived.LaidLaws
import Derived.LaidHandle
import Derived.Stop.Joined
import Derived.Stop.LaidErr
import Derived.Lib.LaidTab
import Derived.Outline
import Derived.IntWalk
import Derived.Test.YtlhbledakddbbaaGreatDoorZcC
/- The law on expressions: its walk. -/
namespace Go.Proofs.YtlhbledakddbbaaGreatDoor
open Go.RowKit

mutual
def Ex.fine : Ex → Prop
  | .mk _ x _ a => x < 18446744073709551616 ∧ a.fine
def Exs.fine : Exs → Prop
  | .nil => True
  | .cons x r => x.fine ∧ r.fine
end
mutual
theorem Ex.At.fine {w : World} {N : Nat} : ∀ (x : Ex) (b o : Nat), x.At w N b o → x.fine
  | .mk op x nm as', b, o, h => by
    obtain ⟨⟨h0, h1, h2, h3⟩, ⟨p, c, h4, s4⟩⟩ := h
    refine ⟨h3, ?_⟩
    rcases s4.2 with h0 | ⟨b', o', _, _, ha⟩
    · cases as' with
      | nil => trivial
      | cons => simp [Exs.len] at h0
    · exact Exs.At.fine as' b' o' ha
theorem Exs.At.fine {w : World} {N : Nat} : ∀ (l : Exs) (b o : Nat), l.At w N b o → l.fine
  | .nil, _, _, _ => trivial
  | .cons x r, b, o, h => ⟨Ex.At.fine x b o h.1, Exs.At.fine r b (o + 4) h.2⟩
end
mutual
theorem Ex.size_total : ∀ x : Ex, x.size + 1 ≤ 2 * x.total
  | .mk _ _ nm a => by have := Exs.size_total a; simp only [Ex.size, Ex.total]; omega
theorem Exs.size_total : ∀ a : Exs, a.size ≤ 2 * a.total
  | .nil => Nat.le_refl _
  | .cons x r => by have := Ex.size_total x; have := Exs.size_total r; simp only [Exs.size, Exs.total]; omega
end
def sumL : List (List UInt8) → Nat
  | [] => 0
  | x :: r => x.length + 2 + sumL r
theorem joinL_len (ts : List (List UInt8)) : (Lib.join ts [44, 32]).length ≤ sumL ts := by
  have tail : ∀ r : List (List UInt8), (Lib.joinTail [44, 32] r).length ≤ sumL r := fun r => by
    induction r with
    | nil => exact Nat.le_refl _
    | cons x r ih => simp only [Lib.joinTail, List.map_cons, List.flatten_cons, List.length_append, List.length_cons, List.length_nil, sumL] at ih ⊢; omega
  cases ts with
  | nil => exact Nat.le_refl _
  | cons x r =>
    have := tail r
    rw [Lib.join_cons, List.length_append, sumL]; omega
theorem dec_len {x : Nat} (h : x < 18446744073709551616) : (Lib.decDigits x).length ≤ 20 := by
  rw [Lib.decDigits_length]
  exact Lib.nDigits_le20 x h
theorem sign_len (op : Int) : (signOf op).length ≤ 4 := by
  by_cases h : op < 6 ∨ 20 < op
  · rw [(no_sign h).2]; exact Nat.zero_le _
  · rcases fifteen (o := op) (by omega) (by omega) with rfl | rfl | rfl | rfl | rfl | rfl | rfl | rfl | rfl | rfl | rfl | rfl | rfl | rfl | rfl <;> decide
theorem text_len {op : Int} {x : Nat} {nm : List UInt8} {ts : List (List UInt8)} (h : x < 18446744073709551616) : (textOf op x nm ts).length ≤ 28 + nm.length + sumL ts := by
  have h0 : (ts.getD 0 []).length + (ts.getD 1 []).length ≤ sumL ts := by
    cases ts with
    | nil => exact Nat.le_refl _
    | cons a r =>
      cases r with
      | nil => simp [sumL]
      | cons b r => simp [sumL]; omega
  have := dec_len h
  have := sign_len op
  have := joinL_len ts
  unfold textOf
  repeat' split
  all_goals first | omega | (simp only [List.length_append, List.length_cons, List.length_nil]; omega)
mutual
theorem Ex.text_le : ∀ x : Ex, x.fine → x.text.length + 2 ≤ 30 * x.total
  | .mk op x nm a, h => by
    have h1 := Exs.text_le a h.2
    have h2 := text_len (op := op) (nm := nm) (ts := a.texts) h.1
    simp only [Ex.text, Ex.total]; omega
theorem Exs.text_le : ∀ a : Exs, a.fine → sumL a.texts ≤ 30 * a.total
  | .nil, _ => Nat.le_refl _
  | .cons x r, h => by
    have h1 := Ex.text_le x h.1
    have h2 := Exs.text_le r h.2
    simp only [Exs.texts, sumL, Exs.total]; omega
end
end Go.Proofs.YtlhbledakddbbaaGreatDoor
/- What the rows' lists give a walk; a world that meets them. -/
namespace Go.Proofs.YtlhbledakddbbaaGreatDoor
open Go.ChangeShapes Go.WideShapes Go.RowKit

theorem own : ownKnob Tryz.prog.godebug = none := by kernel_rfl
theorem laidO : laidOutB Tryz.prog = true := by kernel_rfl
theorem gP : Tryz.prog.globalNamed "internal/strconv.uint64pow10" = some 0 := by kernel_rfl
theorem gPT : (Tryz.prog.globals[0]?).map (·.type) = some 174 := by kernel_rfl

theorem glob_of_laid {W : World} (h : laidMetH Tryz.prog Rows.prettySameRow.laid W) : Glob W := by
  have h' : laidMet Tryz.prog [("math/bits.deBruijn32tab", Rows.laid_math_bits_deBruijn32tab), ("math/bits.deBruijn64tab", Rows.laid_math_bits_deBruijn64tab), ("internal/strconv.uint64pow10", Rows.laid_internal_strconv_uint64pow10)] W := h
  exact Lib.tabBelow_of_tabIs (Lib.tabIs_of_head gP gPT Tryz.underlying174 Tryz.underlying23 (by kernel_rfl) (by kernel_rfl)
    (show laidMet Tryz.prog (("internal/strconv.uint64pow10", Lib.tabData .u64 Lib.pow10Tab) :: []) W from h'.tail.tail))

def put1 (cs : Array Value) : Obj → Obj
  | .cells _ t frozen => .cells cs t frozen
  | o => o
noncomputable def laidWorld (os : Os) : World :=
  let w0 := World.holding Tryz.prog os ⟨#[], #[], []⟩
  { w0 with heap := ((w0.heap.modify 0 (put1 #[.int .u64 1, .int .u64 10, .int .u64 100, .int .u64 1000, .int .u64 10000, .int .u64 100000, .int .u64 1000000, .int .u64 10000000, .int .u64 100000000, .int .u64 1000000000, .int .u64 10000000000, .int .u64 100000000000, .int .u64 1000000000000, .int .u64 10000000000000, .int .u64 100000000000000, .int .u64 1000000000000000, .int .u64 10000000000000000, .int .u64 100000000000000000, .int .u64 1000000000000000000, .int .u64 10000000000000000000])).modify 2 (put1 #[.int .u8 0, .int .u8 1, .int .u8 28, .int .u8 2, .int .u8 29, .int .u8 14, .int .u8 24, .int .u8 3, .int .u8 30, .int .u8 22, .int .u8 20, .int .u8 15, .int .u8 25, .int .u8 17, .int .u8 4, .int .u8 8, .int .u8 31, .int .u8 27, .int .u8 13, .int .u8 23, .int .u8 21, .int .u8 19, .int .u8 16, .int .u8 7, .int .u8 26, .int .u8 12, .int .u8 18, .int .u8 6, .int .u8 11, .int .u8 5, .int .u8 10, .int .u8 9])).modify 3 (put1 #[.int .u8 0, .int .u8 1, .int .u8 56, .int .u8 2, .int .u8 57, .int .u8 49, .int .u8 28, .int .u8 3, .int .u8 61, .int .u8 58, .int .u8 42, .int .u8 50, .int .u8 38, .int .u8 29, .int .u8 17, .int .u8 4, .int .u8 62, .int .u8 47, .int .u8 59, .int .u8 36, .int .u8 45, .int .u8 43, .int .u8 51, .int .u8 22, .int .u8 53, .int .u8 39, .int .u8 33, .int .u8 30, .int .u8 24, .int .u8 18, .int .u8 12, .int .u8 5, .int .u8 63, .int .u8 55, .int .u8 48, .int .u8 27, .int .u8 60, .int .u8 41, .int .u8 37, .int .u8 16, .int .u8 46, .int .u8 35, .int .u8 44, .int .u8 21, .int .u8 52, .int .u8 32, .int .u8 23, .int .u8 11, .int .u8 54, .int .u8 26, .int .u8 40, .int .u8 15, .int .u8 34, .int .u8 20, .int .u8 31, .int .u8 10, .int .u8 25, .int .u8 14, .int .u8 19, .int .u8 9, .int .u8 13, .int .u8 8, .int .u8 7, .int .u8 6]) }
theorem laid_met (os : Os) (args : Array Value) : laidMetH Tryz.prog Rows.prettySameRow.laid ((laidWorld os).forCall (fun _ _ => 0) ⟨#[], args, []⟩).memory :=
  laidMetH_of_parts (laidMet_of_run' 8 (by kernel_rfl) (by kernel_rfl)) (by kernel_rfl)
end Go.Proofs.YtlhbledakddbbaaGreatDoor
/- How much statements, functions and programs have: the document's count and Long. -/
namespace Go.Proofs.YtlhbledakddbbaaGreatDoor
open Go.RowKit

def strsT : List (List UInt8) → Nat
  | [] => 0
  | x :: r => 1 + x.length + strsT r
mutual
def St.total : St → Nat
  | .mk _ nm ns e a g _ _ bd el => 1 + nm.length + e.total + a.total + strsT ns + g.total + bd.total + el.total
def Sts.total : Sts → Nat
  | .nil => 0
  | .cons x r => x.total + r.total
end
theorem wrap_add (a b : Nat) (h : a + b ≤ 1000000) : IntKind.i64.wrap ((a : Int) + (b : Int)) = ((a + b : Nat) : Int) := by
  have : ((a + b : Nat) : Int) = (a : Int) + (b : Int) := by omega
  rw [this]
  exact IntWalk.i64_in _ (by omega)
/-- the count stands at v, so much is to come: it is right as far as M -/
def Cnt (M tot v rest : Nat) : Prop := (v ≤ M ∧ tot = v + rest) ∨ (M < v ∧ M < tot)
theorem rname_nat (l : List UInt8) (M : Nat) (hM : M ≤ 5000) (w : World) : Calls Tryz.prog 42 #[.string (str l), .int .i64 M] w fun e w' => e = .returned (.int .i64 ((1 + min l.length M : Nat) : Int)) ∧ w = w' := by
  have := rname_any (str l) M hM w
  rw [size_str] at this
  exact this
def RCS (n : Nat) : Prop := ∀ l : Sts, l.size < n → ∀ (M : Nat), M ≤ 5000 → ∀ (p : Option Addr) (c N : Nat) (w : World), l.In w N p → N ≤ w.heap.size →
    Calls Tryz.prog 43 #[.slice p l.len c, .int .i64 M] w fun e w' => (∃ v : Nat, e = .returned (.int .i64 v) ∧ v ≤ 4 * M + 3 ∧ Cnt M l.total v 0) ∧ Below w.heap.size w w'
set_option maxRecDepth 100000 in
set_option maxHeartbeats 12800000 in
theorem rcs_step (n : Nat) (ih : RCS n) : RCS (n + 1) := by
  intro l hsz M hM p cl N w h1 hN
  have S1 := Lib.hid h1
  have IH := Lib.hid ih
  have hm1 := h1.1
  have HNN := Lib.hid hN
  have hls : l.size ≤ n := by omega
  clear h1 ih hN hsz
  go_enter Tryz.func43, Tryz.ntmps43
  go_wp2_with fail
  go_loopw [5, 6] (fun t i wr => ∃ (k v : Nat) (r : Sts), t = .int .i64 v ∧ i = .int .i64 k ∧ k + r.len = l.len ∧ r.size ≤ n ∧ Hid (∀ b o, p = some ⟨b, o, none⟩ → l.At w N b o → r.At w N b (o + k * 16)) ∧ v ≤ 4 * M + 3 ∧ Hid (Cnt M l.total v r.total) ∧ Hid (Below w.heap.size w wr)) (fun _ i _ => l.len - (intOf i).toNat)
  case atStart => exact ⟨0, 0, l, rfl, rfl, by omega, hls, Lib.hid fun b o _ h => by rw [Nat.zero_mul]; exact h, by omega, Lib.hid (.inl ⟨by omega, by omega⟩), Lib.hid (Below.refl _ _)⟩
  case round =>
    obtain ⟨k, v, r, rfl, rfl, hk, hrs, hat, hv, hE, hB⟩ := hrel
    cases r with
    | nil =>
      simp only [Sts.len] at hk
      have hge : ¬ k < l.len := by omega
      go_wp2_with fail
      go_ret
      exact ⟨⟨v, rfl, hv, by have := hE.out; simpa only [Sts.total] using this⟩, hB.out⟩
    | cons x r =>
      simp only [Sts.len] at hk
      simp only [Sts.size] at hrs
      have hlt : k < l.len := by omega
      obtain ⟨wo, rfl⟩ : ∃ wo : World, wo = wr := ⟨_, rfl⟩
      by_cases hvM : v ≤ M
      · rcases S1.out.2 with h30 | ⟨b, o, rfl, hb, ha⟩
        · omega
        obtain ⟨hx, hr⟩ := hat.out b o rfl ha
        have HR := Lib.hid hr
        obtain ⟨s, c1, ok1⟩ := St.At.openP (St.At.later (hB.out.mono HNN.out) (Nat.le_trans HNN.out hB.out.size) x b _ hb hx)
        have hbl : b < wo.heap.size := by have := hB.out.size; have := HNN.out; omega
        obtain ⟨A1, hA1⟩ : ∃ A1, x.cells s = A1 := ⟨_, rfl⟩
        have HZ1 := Lib.hid (show A1.size = 16 by rw [← hA1]; rfl)
        have HO1 := Lib.hid (show A1.all (·.oneCell') = true by rw [← hA1]; exact oneSt _ _)
        have F1 := Lib.hid (show wo.rangeAt b (o + k * 16) A1.toList from fun j z hz => c1 j z (by rw [hA1, ← Array.getElem?_toList]; exact hz))
        have HI1 := Lib.hid (infoSt.trans (by rw [HZ1.out]) : (Tryz.prog.info? 54).map (·.size) = some A1.size)
        obtain ⟨W1, hW1⟩ : ∃ W1, wo.alloc (Obj.cells A1 54) = W1 := ⟨_, rfl⟩
        have HW1 := Lib.hid (show Below w.heap.size w W1 by rw [← hW1]; exact hB.out.trans (((Below.refl _ wo).alloc (Nat.le_refl _) _).mono hB.out.size))
        have HWr := Lib.hid (show Below wo.heap.size wo W1 by rw [← hW1]; exact (Below.refl _ wo).alloc (Nat.le_refl _) _)
        have hws : wo.heap.size < W1.heap.size := by rw [← hW1]; simp
        have HXA := Lib.hid (fun w1 hb => cells_later (w0 := W1) (w1 := w1) (b := wo.heap.size) (A := A1) (t := 54) (by rw [← hW1]; exact heap_alloc_new wo _) hb)
        go_wp2_with (first | (refine wpl_load rfl 54 _ rfl b (o + k * 16) rfl A1 _ F1.out Tryz.underlying54 rfl HI1.out ?_) | (refine wpl_store_new rfl 54 _ _ rfl _ A1 _ rfl rfl (by rw [HZ1.out]; rfl) HI1.out HO1.out ?_))
        rw [hW1]
        obtain ⟨kd, nm, ns, e, a, g, lo, hi, bd, el⟩ := x
        have HXC := Lib.hid (show ∀ w1, Below W1.heap.size W1 w1 → ∀ j z, (#[.int .i64 kd, .string (str nm), .slice s.pn ns.length s.cn, .int .i64 e.op, .int .u64 (e.word : Int), .string (str e.name), .slice s.pe e.args.len s.ce, .int .i64 a.op, .int .u64 (a.word : Int), .string (str a.name), .slice s.pa a.args.len s.ca, .slice s.pg g.len s.cg, .int .u64 (lo : Int), .int .u64 (hi : Int), .slice s.pb bd.len s.cb, .slice s.pl el.len s.cl] : Array Value)[j]? = some z → w1.cell? ⟨wo.heap.size, j, none⟩ = some z from fun w1 hb j z hz => HXA.out w1 hb j z (by rw [← hA1]; exact hz))
        simp only [St.size] at hrs
        have HN := Lib.hid (fun w => rname_nat nm M hM w)
        have HE := Lib.hid (fun (w1 : World) (hb : Below wo.heap.size wo w1) => rcount_to _ e (Nat.lt_succ_self _) M hM s.pe s.ce wo.heap.size w1 (ok1.2.1.later hb (Nat.le_refl _)) hb.size)
        have HA := Lib.hid (fun (w1 : World) (hb : Below wo.heap.size wo w1) => rcount_to _ a (Nat.lt_succ_self _) M hM s.pa s.ca wo.heap.size w1 (ok1.2.2.1.later hb (Nat.le_refl _)) hb.size)
        have HOK := Lib.hid ok1
        unfold Ex.val at HE HA
        clear ok1 F1 HZ1 HO1 HI1 HXA hA1 c1 hx hr ha
        have hn1 : 1 + min nm.length M ≤ M + 1 := by omega
        have hc1 : (1 + min nm.length M ≤ M ∧ 1 + nm.length = 1 + min nm.length M) ∨ (M < 1 + min nm.length M ∧ M < 1 + nm.length) := by omega
        generalize 1 + min nm.length M = n1 at HN hn1 hc1
        go_upto_region 6 with fail
        simp only [Act.put]
        go_cut [5] from 25 to 40 (fun s5 wx => ∃ v' : Nat, s5 = .int .i64 v' ∧ v' ≤ 4 * M + 3 ∧ Hid (Cnt M l.total v' (strsT ns + (g.total + (bd.total + (el.total + r.total))))) ∧ Hid (Below wo.heap.size wo wx) ∧ Hid (Below W1.heap.size W1 wx))
        case first =>
          have HS1 : Below wo.heap.size wo W1.drew := HWr.out.drew
          have HS2 : Below W1.heap.size W1 W1.drew := (Below.refl _ _).drew
          refine wp_region_held_drew (S := fun W => Below wo.heap.size wo W ∧ Below W1.heap.size W1 W ∧ W.cell? ⟨wo.heap.size, 1, none⟩ = some (.string (str nm)) ∧ W.cell? ⟨wo.heap.size, 3, none⟩ = some (.int .i64 e.op) ∧ W.cell? ⟨wo.heap.size, 4, none⟩ = some (.int .u64 (e.word : Int)) ∧ W.cell? ⟨wo.heap.size, 5, none⟩ = some (.string (str e.name)) ∧ W.cell? ⟨wo.heap.size, 6, none⟩ = some (.slice s.pe e.args.len s.ce) ∧ W.cell? ⟨wo.heap.size, 7, none⟩ = some (.int .i64 a.op) ∧ W.cell? ⟨wo.heap.size, 8, none⟩ = some (.int .u64 (a.word : Int)) ∧ W.cell? ⟨wo.heap.size, 9, none⟩ = some (.string (str a.name)) ∧ W.cell? ⟨wo.heap.size, 10, none⟩ = some (.slice s.pa a.args.len s.ca)) (by kernel_rfl) ?_ (fun hHeld => ?_)
          · exact ⟨HS1, HS2, HXC.out _ HS2 1 _ rfl, HXC.out _ HS2 3 _ rfl, HXC.out _ HS2 4 _ rfl, HXC.out _ HS2 5 _ rfl, HXC.out _ HS2 6 _ rfl, HXC.out _ HS2 7 _ rfl, HXC.out _ HS2 8 _ rfl, HXC.out _ HS2 9 _ rfl, HXC.out _ HS2 10 _ rfl⟩
          refine wpAnyH_take (i := 0) (oi := ⟨some 25, .move (.tmp 5), 3, "ref.go:432", #[], none⟩) (v := ?_) rfl (by kernel_rfl) (by kernel_rfl) (by kernel_rfl) (fun _ _ _ h => h) (Or.inl ⟨by rfl, ?_⟩) (by assumption) ?_
          rotate_left
          · (intro w hSw; (try dsimp only at hSw); go_simp; try with_reducible rfl)
          try simp only [Act.put, List.setIfInBounds_toArray, List.set_cons_zero, List.set_cons_succ]
          refine wpAnyH_take (i := 1) (oi := ⟨some 26, .fieldAddr 54 (.tmp 7) 1, 0, "ref.go:432", #[], none⟩) (v := ?_) rfl (by kernel_rfl) (by kernel_rfl) (by kernel_rfl) (fun _ _ _ h => h) (Or.inl ⟨by rfl, ?_⟩) (by assumption) ?_
          rotate_left
          · (intro w hSw; (try dsimp only at hSw); go_simp; try with_reducible rfl)
          try simp only [Act.put, List.setIfInBounds_toArray, List.set_cons_zero, List.set_cons_succ]
          refine wpAnyH_take (i := 2) (oi := ⟨some 27, .load 9 (.tmp 26), 9, "ref.go:432", #[⟨1, .data⟩], none⟩) (v := ?_) rfl (by kernel_rfl) (by kernel_rfl) (by kernel_rfl) (fun _ _ _ h => h) (Or.inl ⟨by rfl, ?_⟩) (by assumption) ?_
          rotate_left
          · (intro w hSw; (try dsimp only at hSw); go_simp; try with_reducible rfl)
          try simp only [Act.put, List.setIfInBounds_toArray, List.set_cons_zero, List.set_cons_succ]
          refine wpAnyH_take (i := 3) (oi := ⟨some 28, .move (.tmp 1), 3, "ref.go:432", #[], none⟩) (v := ?_) rfl (by kernel_rfl) (by kernel_rfl) (by kernel_rfl) (fun _ _ _ h => h) (Or.inl ⟨by rfl, ?_⟩) (by assumption) ?_
          rotate_left
          · (intro w hSw; (try dsimp only at hSw); go_simp; try with_reducible rfl)
          try simp only [Act.put, List.setIfInBounds_toArray, List.set_cons_zero, List.set_cons_succ]
          refine wpAnyH_take (i := 6) (oi := ⟨some 31, .fieldAddr 54 (.tmp 7) 3, 0, "ref.go:432", #[], none⟩) (v := ?_) rfl (by kernel_rfl) (by kernel_rfl) (by kernel_rfl) (fun _ _ _ h => h) (Or.inl ⟨by rfl, ?_⟩) (by assumption) ?_
          rotate_left
          · (intro w hSw; (try dsimp only at hSw); go_simp; try with_reducible rfl)
          try simp only [Act.put, List.setIfInBounds_toArray, List.set_cons_zero, List.set_cons_succ]
          refine wpAnyH_take (i := 7) (oi := ⟨some 32, .load 26 (.tmp 31), 26, "ref.go:432", #[⟨6, .data⟩], none⟩) (v := ?_) rfl (by kernel_rfl) (by kernel_rfl) (by kernel_rfl) (fun _ _ _ h => h) (Or.inl ⟨by rfl, ?_⟩) (by assumption) ?_
          rotate_left
          · (intro w hSw; (try dsimp only at hSw); go_simp; try with_reducible rfl)
          try simp only [Act.put, List.setIfInBounds_toArray, List.set_cons_zero, List.set_cons_succ]
          refine wpAnyH_take (i := 8) (oi := ⟨some 33, .move (.tmp 1), 3, "ref.go:432", #[], none⟩) (v := ?_) rfl (by kernel_rfl) (by kernel_rfl) (by kernel_rfl) (fun _ _ _ h => h) (Or.inl ⟨by rfl, ?_⟩) (by assumption) ?_
          rotate_left
          · (intro w hSw; (try dsimp only at hSw); go_simp; try with_reducible rfl)
          try simp only [Act.put, List.setIfInBounds_toArray, List.set_cons_zero, List.set_cons_succ]
          refine wpAnyH_take (i := 11) (oi := ⟨some 36, .fieldAddr 54 (.tmp 7) 4, 0, "ref.go:432", #[], none⟩) (v := ?_) rfl (by kernel_rfl) (by kernel_rfl) (by kernel_rfl) (fun _ _ _ h => h) (Or.inl ⟨by rfl, ?_⟩) (by assumption) ?_
          rotate_left
          · (intro w hSw; (try dsimp only at hSw); go_simp; try with_reducible rfl)
          try simp only [Act.put, List.setIfInBounds_toArray, List.set_cons_zero, List.set_cons_succ]
          refine wpAnyH_take (i := 12) (oi := ⟨some 37, .load 26 (.tmp 36), 26, "ref.go:432", #[⟨11, .data⟩], none⟩) (v := ?_) rfl (by kernel_rfl) (by kernel_rfl) (by kernel_rfl) (fun _ _ _ h => h) (Or.inl ⟨by rfl, ?_⟩) (by assumption) ?_
          rotate_left
          · (intro w hSw; (try dsimp only at hSw); go_simp; try with_reducible rfl)
          try simp only [Act.put, List.setIfInBounds_toArray, List.set_cons_zero, List.set_cons_succ]
          refine wpAnyH_take (i := 13) (oi := ⟨some 38, .move (.tmp 1), 3, "ref.go:432", #[], none⟩) (v := ?_) rfl (by kernel_rfl) (by kernel_rfl) (by kernel_rfl) (fun _ _ _ h => h) (Or.inl ⟨by rfl, ?_⟩) (by assumption) ?_
          rotate_left
          · (intro w hSw; (try dsimp only at hSw); go_simp; try with_reducible rfl)
          try simp only [Act.put, List.setIfInBounds_toArray, List.set_cons_zero, List.set_cons_succ]
          refine wpAnyH_ready (rs := [4]) (by kernel_rfl) (by simp) ?_
          refine AllReadyH.cons (o := ⟨some 29, .call { callee := .value (.func 42), args := #[.tmp 27, .tmp 28], argTypes := #[9, 3] }, 3, "ref.go:432", #[⟨2, .data⟩, ⟨3, .data⟩], none⟩) rfl (fun K hK => ?_) AllReadyH.nil
          go_simp
          refine (HN.out _).mono ?_
          rintro z w' ⟨rfl, rfl⟩
          refine hK.out _ _ ?_ (fun hHeld => ?_)
          · exact ⟨HS1, HS2, HXC.out _ HS2 1 _ rfl, HXC.out _ HS2 3 _ rfl, HXC.out _ HS2 4 _ rfl, HXC.out _ HS2 5 _ rfl, HXC.out _ HS2 6 _ rfl, HXC.out _ HS2 7 _ rfl, HXC.out _ HS2 8 _ rfl, HXC.out _ HS2 9 _ rfl, HXC.out _ HS2 10 _ rfl⟩
          clear hK K
          try simp only [Act.put, List.setIfInBounds_toArray, List.set_cons_zero, List.set_cons_succ]
          obtain ⟨m1, hme⟩ : ∃ m, m = v + n1 := ⟨_, rfl⟩
          have HM1 := Lib.hid hme
          have hmb1 : m1 ≤ 10010 := by omega
          clear hme
          refine wpAnyH_take (i := 5) (oi := ⟨some 30, .binOp .add 3 (.tmp 25) (.tmp 29) 3, 3, "ref.go:432", #[⟨0, .data⟩, ⟨4, .data⟩], none⟩) (v := .int .i64 ((m1 : Nat) : Int)) rfl (by kernel_rfl) (by kernel_rfl) (by kernel_rfl) (fun _ _ _ h => h) (Or.inl ⟨by rfl, ?_⟩) (by assumption) ?_
          · (intro w hSw; have hwr : IntKind.i64.wrap ((v : Int) + (n1 : Int)) = ((m1 : Nat) : Int) := by rw [HM1.out]; exact wrap_add v n1 (by omega))
            (try dsimp only at hSw); go_simp; (try rw [hwr])
          try simp only [Act.put, List.setIfInBounds_toArray, List.set_cons_zero, List.set_cons_succ]
          refine wpAnyH_ready (rs := [9]) (by kernel_rfl) (by simp) ?_
          refine AllReadyH.cons (o := ⟨some 34, .call { callee := .value (.func 30), args := #[.tmp 32, .tmp 33], argTypes := #[26, 3] }, 3, "ref.go:432", #[⟨7, .data⟩, ⟨8, .data⟩, ⟨4, .chain⟩], none⟩) rfl (fun K hK => ?_) AllReadyH.nil
          go_simp
          refine (HE.out _ HS1).mono ?_
          rintro z w2 ⟨⟨n2, rfl, hn2, hc2⟩, hB2⟩
          replace HS2 := HS2.trans (hB2.mono HS2.size)
          replace HS1 := HS1.trans (hB2.mono HS1.size)
          clear hB2
          refine hK.out _ _ ?_ (fun hHeld => ?_)
          · exact ⟨HS1, HS2, HXC.out _ HS2 1 _ rfl, HXC.out _ HS2 3 _ rfl, HXC.out _ HS2 4 _ rfl, HXC.out _ HS2 5 _ rfl, HXC.out _ HS2 6 _ rfl, HXC.out _ HS2 7 _ rfl, HXC.out _ HS2 8 _ rfl, HXC.out _ HS2 9 _ rfl, HXC.out _ HS2 10 _ rfl⟩
          clear hK K
          try simp only [Act.put, List.setIfInBounds_toArray, List.set_cons_zero, List.set_cons_succ]
          obtain ⟨m2, hme⟩ : ∃ m, m = m1 + n2 := ⟨_, rfl⟩
          have HM2 := Lib.hid hme
          have hmb2 : m2 ≤ 20020 := by omega
          clear hme
          refine wpAnyH_take (i := 10) (oi := ⟨some 35, .binOp .add 3 (.tmp 30) (.tmp 34) 3, 3, "ref.go:432", #[⟨5, .data⟩, ⟨9, .data⟩], none⟩) (v := .int .i64 ((m2 : Nat) : Int)) rfl (by kernel_rfl) (by kernel_rfl) (by kernel_rfl) (fun _ _ _ h => h) (Or.inl ⟨by rfl, ?_⟩) (by assumption) ?_
          · (intro w hSw; have hwr : IntKind.i64.wrap ((m1 : Int) + (n2 : Int)) = ((m2 : Nat) : Int) := by rw [HM2.out]; exact wrap_add m1 n2 (by omega))
            (try dsimp only at hSw); go_simp; (try rw [hwr])
          try simp only [Act.put, List.setIfInBounds_toArray, List.set_cons_zero, List.set_cons_succ]
          refine wpAnyH_ready (rs := [14]) (by kernel_rfl) (by simp) ?_
          refine AllReadyH.cons (o := ⟨some 39, .call { callee := .value (.func 30), args := #[.tmp 37, .tmp 38], argTypes := #[26, 3] }, 3, "ref.go:432", #[⟨12, .data⟩, ⟨13, .data⟩, ⟨9, .chain⟩], none⟩) rfl (fun K hK => ?_) AllReadyH.nil
          go_simp
          refine (HA.out _ HS1).mono ?_
          rintro z w3 ⟨⟨n3, rfl, hn3, hc3⟩, hB3⟩
          replace HS2 := HS2.trans (hB3.mono HS2.size)
          replace HS1 := HS1.trans (hB3.mono HS1.size)
          clear hB3
          refine hK.out _ _ ?_ (fun hHeld => ?_)
          · exact ⟨HS1, HS2, HXC.out _ HS2 1 _ rfl, HXC.out _ HS2 3 _ rfl, HXC.out _ HS2 4 _ rfl, HXC.out _ HS2 5 _ rfl, HXC.out _ HS2 6 _ rfl, HXC.out _ HS2 7 _ rfl, HXC.out _ HS2 8 _ rfl, HXC.out _ HS2 9 _ rfl, HXC.out _ HS2 10 _ rfl⟩
          clear hK K
          try simp only [Act.put, List.setIfInBounds_toArray, List.set_cons_zero, List.set_cons_succ]
          obtain ⟨m3, hme⟩ : ∃ m, m = m2 + n3 := ⟨_, rfl⟩
          have HM3 := Lib.hid hme
          have hmb3 : m3 ≤ 30030 := by omega
          clear hme
          refine wpAnyH_take (i := 15) (oi := ⟨some 40, .binOp .add 3 (.tmp 35) (.tmp 39) 3, 3, "ref.go:432", #[⟨10, .data⟩, ⟨14, .data⟩], none⟩) (v := .int .i64 ((m3 : Nat) : Int)) rfl (by kernel_rfl) (by kernel_rfl) (by kernel_rfl) (fun _ _ _ h => h) (Or.inl ⟨by rfl, ?_⟩) (by assumption) ?_
          · (intro w hSw; have hwr : IntKind.i64.wrap ((m2 : Int) + (n3 : Int)) = ((m3 : Nat) : Int) := by rw [HM3.out]; exact wrap_add m2 n3 (by omega))
            (try dsimp only at hSw); go_simp; (try rw [hwr])
          try simp only [Act.put, List.setIfInBounds_toArray, List.set_cons_zero, List.set_cons_succ]
          refine wpAnyH_take (i := 16) (oi := ⟨some 5, .assign (.tmp 40), 3, "ref.go:432", #[⟨15, .data⟩, ⟨14, .chain⟩, ⟨0, .phase⟩, ⟨1, .phase⟩, ⟨2, .phase⟩, ⟨3, .phase⟩, ⟨4, .phase⟩, ⟨5, .phase⟩, ⟨6, .phase⟩, ⟨7, .phase⟩, ⟨8, .phase⟩, ⟨9, .phase⟩, ⟨10, .phase⟩, ⟨11, .phase⟩, ⟨12, .phase⟩, ⟨13, .phase⟩, ⟨14, .phase⟩, ⟨15, .phase⟩], none⟩) (v := ?_) rfl (by kernel_rfl) (by kernel_rfl) (by kernel_rfl) (fun _ _ _ h => h) (Or.inl ⟨by rfl, ?_⟩) (by assumption) ?_
          rotate_left
          · (intro w hSw; (try dsimp only at hSw); go_simp; try with_reducible rfl)
          try simp only [Act.put, List.setIfInBounds_toArray, List.set_cons_zero, List.set_cons_succ]
          refine wpAnyH_done (by kernel_rfl) ?_ _
          go_wp2_with fail
          go_meet
          exact ⟨m3, rfl, by have := HM1.out; have := HM2.out; have := HM3.out; omega, Lib.hid (by have := hE.out; have := HM1.out; have := HM2.out; have := HM3.out; unfold Cnt at *; simp only [Sts.total, St.total] at *; omega), Lib.hid HS1, Lib.hid HS2⟩
        case rest =>
          obtain ⟨v', rfl, hv', hE', HS1, HS2⟩ := hcut
          go_upto_block 2 with fail
          go_cut [5, 8] from 41 to 61 (fun s5 s8 wx => ∃ v2 j : Nat, s5 = .int .i64 v2 ∧ s8 = .int .i64 j ∧ v2 ≤ 4 * M + 3 ∧ Hid (Cnt M l.total v2 (g.total + (bd.total + (el.total + r.total)))) ∧ Hid (Below W1.heap.size W1 wx))
          case first =>
            go_wp2_with fail
            go_loopw [5, 8] (fun t i wx => ∃ (ds rs : List (List UInt8)) (v2 : Nat), t = .int .i64 v2 ∧ i = .int .i64 ds.length ∧ Hid (ns = ds ++ rs) ∧ ds.length + rs.length = ns.length ∧ v2 ≤ 4 * M + 3 ∧ Hid (Cnt M l.total v2 (strsT rs + (g.total + (bd.total + (el.total + r.total))))) ∧ Hid (Below W1.heap.size W1 wx)) (fun _ i _ => ns.length - (intOf i).toNat)
            case atStart => exact ⟨[], ns, v', rfl, rfl, Lib.hid rfl, by simp, hv', hE', HS2⟩
            case round =>
              obtain ⟨ds, rs, v2, rfl, rfl, EN, hk2, hv2, hE2, HB2⟩ := hrel
              have gx2 : wr.cell? ⟨wo.heap.size, 2, none⟩ = some (.slice s.pn ns.length s.cn) := HXC.out _ HB2.out 2 _ rfl
              have hm2 : ns.length ≤ 140737488355328 := HOK.out.1.2.1
              cases rs with
              | nil =>
                simp only [List.length_nil] at hk2
                have hge2 : ¬ ds.length < ns.length := by omega
                go_wp2_with fail
                go_meet
                exact ⟨v2, _, rfl, rfl, hv2, Lib.hid (by have := hE2.out; simpa [strsT] using this), HB2⟩
              | cons y rs =>
                simp only [List.length_cons] at hk2
                have hlt2 : ds.length < ns.length := by omega
                by_cases hM2 : v2 ≤ M
                · rcases (show RowIn wo.heap.size (StrAt wo) 1 ns s.pn from HOK.out.1.2).2 with h30 | ⟨b3, o3, hp3, hb3, ha3⟩
                  · omega
                  rw [EN.out] at ha3
                  have hb3' : b3 < W1.heap.size := by omega
                  have g3 : wr.cell? ⟨b3, o3 + ds.length, none⟩ = some (.string (str y)) := (HB2.out.cell hb3').trans ((HWr.out.cell hb3).trans (by have := (Row.drop _ _ _ ha3).1; rw [Nat.mul_one] at this; exact this))
                  rw [hp3] at gx2
                  have HN2 := Lib.hid (fun w => rname_nat y M hM w)
                  have hn2 : 1 + min y.length M ≤ M + 1 := by omega
                  have hc2 : (1 + min y.length M ≤ M ∧ 1 + y.length = 1 + min y.length M) ∨ (M < 1 + min y.length M ∧ M < 1 + y.length) := by omega
                  generalize 1 + min y.length M = n2 at HN2 hn2 hc2
                  obtain ⟨m2, hme⟩ : ∃ m, m = v2 + n2 := ⟨_, rfl⟩
                  have HM2 := Lib.hid hme
                  have hwr : IntKind.i64.wrap ((v2 : Int) + (n2 : Int)) = (m2 : Int) := by rw [hme]; exact wrap_add v2 n2 (by omega)
                  have hw2 : (v2 : Int) + (n2 : Int) = (m2 : Int) := by omega
                  have HH := Lib.hid hp3
                  have HE3 := Lib.hid (show Cnt M l.total m2 (strsT rs + (g.total + (bd.total + (el.total + r.total)))) by have := hE2.out; unfold Cnt at *; simp only [strsT] at this; omega)
                  have hmb : m2 ≤ 4 * M + 3 := by omega
                  clear ha3 hme hp3 hc2
                  go_wp2_with fail
                  refine (HN2.out _).mono ?_
                  rintro z w' ⟨rfl, rfl⟩
                  go_wp2_with fail
                  go_roundw
                  case rel => exact ⟨ds ++ [y], rs, m2, rfl, by rw [List.length_append]; go_num, Lib.hid (by rw [EN.out]; simp), by simp; omega, hmb, HE3, HB2⟩
                  case measure => simp [intOf]; omega
                · go_wp2_with fail
                  go_meet
                  exact ⟨v2, _, rfl, rfl, hv2, Lib.hid (by have := hE2.out; unfold Cnt at *; simp only [strsT] at this; omega), HB2⟩
          case rest =>
            obtain ⟨v2, j2, rfl, rfl, hv2, hE2, HS3⟩ := hcut
            clear hv' hE' HS1 HS2
            go_upto_block 4 with fail
            go_cut [5, 9] from 62 to 82 (fun s5 s9 wx => ∃ v3 j : Nat, s5 = .int .i64 v3 ∧ s9 = .int .i64 j ∧ v3 ≤ 4 * M + 3 ∧ Hid (Cnt M l.total v3 (bd.total + (el.total + r.total))) ∧ Hid (Below W1.heap.size W1 wx))
            case first =>
              go_wp2_with fail
              go_loopw [5, 9] (fun t i wx => ∃ (j v3 : Nat) (y : Exs), t = .int .i64 v3 ∧ i = .int .i64 j ∧ j + y.len = g.len ∧ Hid (∀ b o, s.pg = some ⟨b, o, none⟩ → g.At wo wo.heap.size b o → y.At wo wo.heap.size b (o + j * 4)) ∧ v3 ≤ 4 * M + 3 ∧ Hid (Cnt M l.total v3 (y.total + (bd.total + (el.total + r.total)))) ∧ Hid (Below W1.heap.size W1 wx)) (fun _ i _ => g.len - (intOf i).toNat)
              case atStart => exact ⟨0, v2, g, rfl, rfl, by omega, Lib.hid fun b o _ h => by rw [Nat.zero_mul]; exact h, hv2, hE2, HS3⟩
              case round =>
                obtain ⟨j, v3, y, rfl, rfl, hk3, hat3, hv3, hE3, HB3⟩ := hrel
                have gx3 : wr.cell? ⟨wo.heap.size, 11, none⟩ = some (.slice s.pg g.len s.cg) := HXC.out _ HB3.out 11 _ rfl
                have hm3 : g.len ≤ 140737488355328 := HOK.out.2.2.2.1.1
                cases y with
                | nil =>
                  simp only [Exs.len] at hk3
                  have hge3 : ¬ j < g.len := by omega
                  go_wp2_with fail
                  go_meet
                  exact ⟨v3, _, rfl, rfl, hv3, Lib.hid (by have := hE3.out; simpa [Exs.total] using this), HB3⟩
                | cons z y =>
                  simp only [Exs.len] at hk3
                  have hlt3 : j < g.len := by omega
                  by_cases hM3 : v3 ≤ M
                  · rcases (show g.In wo wo.heap.size s.pg from HOK.out.2.2.2.1).2 with h30 | ⟨b3, o3, hp3, hb3, ha3⟩
                    · omega
                    obtain ⟨hz, hzr⟩ := hat3.out b3 o3 hp3 ha3
                    have hBo : Below wo.heap.size wo wr := HWr.out.trans (HB3.out.mono HWr.out.size)
                    obtain ⟨q, cq, d0, d1, d2, d3, hokz⟩ := (Ex.At.later hBo hBo.size z b3 _ hb3 hz).open'
                    rw [hp3] at gx3
                    have HC3 := Lib.hid (rcount_to _ z (Nat.lt_succ_self _) M hM q cq wr.heap.size wr hokz (Nat.le_refl _))
                    unfold Ex.val at HC3
                    have HZR := Lib.hid hzr
                    have HH := Lib.hid hp3
                    clear ha3 hz hzr hokz hp3 hat3 hBo
                    go_wp2_with fail
                    refine HC3.out.mono ?_
                    rintro e3 w3 ⟨⟨n3, rfl, hn3, hc3⟩, hB4⟩
                    obtain ⟨m3, hme⟩ : ∃ m, m = v3 + n3 := ⟨_, rfl⟩
                    have hwr : IntKind.i64.wrap ((v3 : Int) + (n3 : Int)) = (m3 : Int) := by rw [hme]; exact wrap_add v3 n3 (by omega)
                    have hw3 : (v3 : Int) + (n3 : Int) = (m3 : Int) := by omega
                    have HE4 := Lib.hid (show Cnt M l.total m3 (y.total + (bd.total + (el.total + r.total))) by have := hE3.out; unfold Cnt at *; simp only [Exs.total] at this; omega)
                    have hmb : m3 ≤ 4 * M + 3 := by omega
                    have HB5 := Lib.hid (HB3.out.trans (hB4.mono HB3.out.size))
                    clear hB4 hme hc3 HC3 d0 d1 d2 d3
                    go_wp2_with fail
                    go_roundw
                    case rel => exact ⟨j + 1, m3, y, rfl, by go_num, by omega, Lib.hid fun b o hbo _ => by have := HH.out.symm.trans hbo; cases this; rw [show o3 + (j + 1) * 4 = o3 + j * 4 + 4 by omega]; exact HZR.out, hmb, HE4, HB5⟩
                    case measure => simp [intOf]; omega
                  · go_wp2_with fail
                    go_meet
                    exact ⟨v3, _, rfl, rfl, hv3, Lib.hid (by have := hE3.out; unfold Cnt at *; simp only [Exs.total] at this; omega), HB3⟩
            case rest =>
              obtain ⟨v3, j3, rfl, rfl, hv3, hE3, HS4⟩ := hcut
              clear hv2 hE2 HS3
              have gx14 : wc.cell? ⟨wo.heap.size, 14, none⟩ = some (.slice s.pb bd.len s.cb) := HXC.out _ HS4.out 14 _ rfl
              have gx15 : wc.cell? ⟨wo.heap.size, 15, none⟩ = some (.slice s.pl el.len s.cl) := HXC.out _ HS4.out 15 _ rfl
              have HBd := Lib.hid (fun (K : Nat) (hK : K ≤ 5000) (w1 : World) (hb : Below wo.heap.size wo w1) => IH.out bd (by omega) K hK s.pb s.cb wo.heap.size w1 (Sts.In.later HOK.out.2.2.2.2.1 hb (Nat.le_refl _)) hb.size)
              have HEl := Lib.hid (fun (K : Nat) (hK : K ≤ 5000) (w1 : World) (hb : Below wo.heap.size wo w1) => IH.out el (by omega) K hK s.pl s.cl wo.heap.size w1 (Sts.In.later HOK.out.2.2.2.2.2.1 hb (Nat.le_refl _)) hb.size)
              have HBc := Lib.hid (HWr.out.trans (HS4.out.mono HWr.out.size))
              by_cases h3 : v3 ≤ M
              · have hsub : ((M - v3 : Nat) : Int) = (M : Int) - (v3 : Int) := by omega
                have HC := Lib.hid (HBd.out (M - v3) (by omega) wc HBc.out)
                rw [hsub] at HC
                have hw0 : IntKind.i64.wrap ((M : Int) - (v3 : Int)) = (M : Int) - (v3 : Int) := IntWalk.i64_in _ (by omega)
                go_wp2_with fail
                refine HC.out.mono ?_
                rintro e4 w4 ⟨⟨n4, rfl, hn4, hc4⟩, hB4⟩
                obtain ⟨v4, hme⟩ : ∃ m, m = v3 + n4 := ⟨_, rfl⟩
                have hwr4 : IntKind.i64.wrap ((v3 : Int) + (n4 : Int)) = (v4 : Int) := by rw [hme]; exact wrap_add v3 n4 (by omega)
                have hw4 : (v3 : Int) + (n4 : Int) = (v4 : Int) := by omega
                have hv4 : v4 ≤ 4 * M + 3 := by omega
                have HE4 := Lib.hid (show Cnt M l.total v4 (el.total + r.total) by have := hE3.out; unfold Cnt at *; omega)
                have HB4 := Lib.hid (HBc.out.trans (hB4.mono HBc.out.size))
                have gy15 : w4.cell? ⟨wo.heap.size, 15, none⟩ = some (.slice s.pl el.len s.cl) := HXC.out _ (HS4.out.trans (hB4.mono HS4.out.size)) 15 _ rfl
                clear hB4 hme hc4 HC hw0 hsub gx14 gx15
                by_cases h4 : v4 ≤ M
                · have hsub : ((M - v4 : Nat) : Int) = (M : Int) - (v4 : Int) := by omega
                  have HC := Lib.hid (HEl.out (M - v4) (by omega) w4 HB4.out)
                  rw [hsub] at HC
                  have hw0 : IntKind.i64.wrap ((M : Int) - (v4 : Int)) = (M : Int) - (v4 : Int) := IntWalk.i64_in _ (by omega)
                  go_wp2_with fail
                  refine HC.out.mono ?_
                  rintro e5 w5 ⟨⟨n5, rfl, hn5, hc5⟩, hB5⟩
                  obtain ⟨v5, hme⟩ : ∃ m, m = v4 + n5 := ⟨_, rfl⟩
                  have hwr5 : IntKind.i64.wrap ((v4 : Int) + (n5 : Int)) = (v5 : Int) := by rw [hme]; exact wrap_add v4 n5 (by omega)
                  have hw5 : (v4 : Int) + (n5 : Int) = (v5 : Int) := by omega
                  have hv5 : v5 ≤ 4 * M + 3 := by omega
                  have HE5 := Lib.hid (show Cnt M l.total v5 r.total by have := HE4.out; unfold Cnt at *; omega)
                  have HB5 := Lib.hid (hB.out.trans ((HB4.out.trans (hB5.mono HB4.out.size)).mono hB.out.size))
                  clear hB5 hme hc5 HC hw0 hsub
                  go_wp2_with fail
                  go_roundw
                  case rel => exact ⟨k + 1, v5, r, rfl, by go_num, by omega, by omega, Lib.hid fun b' o' hbo _ => by cases hbo; rw [show o + (k + 1) * 16 = o + k * 16 + 16 by omega]; exact HR.out, hv5, HE5, HB5⟩
                  case measure => simp [intOf]; omega
                · have HE5 := Lib.hid (show Cnt M l.total v4 r.total by have := HE4.out; unfold Cnt at *; omega)
                  have HB5 := Lib.hid (hB.out.trans (HB4.out.mono hB.out.size))
                  go_wp2_with fail
                  go_roundw
                  case rel => exact ⟨k + 1, v4, r, rfl, by go_num, by omega, by omega, Lib.hid fun b' o' hbo _ => by cases hbo; rw [show o + (k + 1) * 16 = o + k * 16 + 16 by omega]; exact HR.out, hv4, HE5, HB5⟩
                  case measure => simp [intOf]; omega
              · have HE5 := Lib.hid (show Cnt M l.total v3 r.total by have := hE3.out; unfold Cnt at *; omega)
                have HB5 := Lib.hid (hB.out.trans (HBc.out.mono hB.out.size))
                go_wp2_with fail
                go_roundw
                case rel => exact ⟨k + 1, v3, r, rfl, by go_num, by omega, by omega, Lib.hid fun b' o' hbo _ => by cases hbo; rw [show o + (k + 1) * 16 = o + k * 16 + 16 by omega]; exact HR.out, hv3, HE5, HB5⟩
                case measure => simp [intOf]; omega
      · go_wp2_with fail
        go_ret
        exact ⟨⟨v, rfl, hv, by have := hE.out; unfold Cnt at *; omega⟩, hB.out⟩
theorem rcs_to : ∀ n, RCS n
  | 0 => fun _ h => absurd h (Nat.not_lt_zero _)
  | n + 1 => rcs_step n (rcs_to n)
theorem count_any (l : Sts) (M : Nat) (hM : M ≤ 5000) (p : Option Addr) (c N : Nat) (w : World) (h : l.In w N p) (hN : N ≤ w.heap.size) :
    Calls Tryz.prog 43 #[.slice p l.len c, .int .i64 M] w fun e w' => (∃ v : Nat, e = .returned (.int .i64 v) ∧ v ≤ 4 * M + 3 ∧ Cnt M l.total v 0) ∧ Below w.heap.size w w' :=
  rcs_to _ l (Nat.lt_succ_self _) M hM p c N w h hN
end Go.Proofs.YtlhbledakddbbaaGreatDoor
/- The document's None: is an expression a zero one? -/
namespace Go.Proofs.YtlhbledakddbbaaGreatDoor
open Go.RowKit

def Ex.none (x : Ex) : Bool := decide (x.op = 0) && (decide (x.word = 0) && (x.name.isEmpty && decide (x.args.len = 0)))
set_option maxHeartbeats 1600000 in
theorem rNone_any (x : Ex) (p : Option Addr) (c : Nat) (w : World) :
    Calls Tryz.prog 148 #[x.val p c] w fun e w' => e = .returned (.bool x.none) ∧ Below w.heap.size w w' := by
  obtain ⟨op, wd, nm, ar⟩ := x
  unfold Ex.none Ex.val
  simp only [Ex.op, Ex.word, Ex.name, Ex.args]
  obtain ⟨n, hn0⟩ : ∃ n, ar.len = n := ⟨_, rfl⟩
  simp only [hn0]
  clear hn0
  have HB := Lib.hid ((Below.refl w.heap.size w).alloc (Nat.le_refl _) (.cells #[.int .i64 op, .int .u64 (wd : Int), .string (str nm), .slice p n c] 26 (0, 0)))
  have es : (str nm).toList.isEmpty = nm.isEmpty := by rw [Lib.toList_data, str_data]
  go_enter Tryz.func148, Tryz.ntmps148
  by_cases h1 : op = 0
  · subst h1
    by_cases h2 : wd = 0
    · subst h2
      cases hn : nm.isEmpty with
      | true =>
        rw [hn] at es
        have e0 : (str nm).toList = [] := by simpa using es
        by_cases h4 : n = 0
        · subst h4
          go_wp2_with fail
          go_ret
          exact ⟨rfl, HB.out⟩
        · have h5 : ((n : Int) == 0) = false := by simp; omega
          go_wp2_with fail
          go_ret
          exact ⟨by simp, HB.out⟩
      | false =>
        rw [hn] at es
        have e0 : ¬ (str nm).toList = [] := by intro h; rw [h] at es; cases es
        go_wp2_with fail
        go_ret
        exact ⟨by simp, HB.out⟩
    · have h5 : ((wd : Int) == 0) = false := by simp; omega
      go_wp2_with fail
      go_ret
      exact ⟨by simp, HB.out⟩
  · have h5 : (op == 0) = false := by simp; omega
    go_wp2_with fail
    go_ret
    exact ⟨by simp [h1], HB.out⟩
end Go.Proofs.YtlhbledakddbbaaGreatDoor
/- The document's Deep. -/
namespace Go.Proofs.YtlhbledakddbbaaGreatDoor
open Go.RowKit

def Ex.dp (x : Ex) : Nat := if x.none then 0 else x.depth
mutual
def St.wt : St → Nat
  | .mk _ _ _ e a g _ _ bd el => 1 + e.size + a.size + g.size + bd.wt + el.wt
def Sts.wt : Sts → Nat
  | .nil => 0
  | .cons x r => x.wt + r.wt
end
mutual
def St.deep : St → Nat
  | .mk _ _ _ e a g _ _ bd el => max (max (max (max bd.deep el.deep) g.deepest) e.dp) a.dp + 1
def Sts.deep : Sts → Nat
  | .nil => 0
  | .cons x r => max x.deep r.deep
end
theorem Ex.dp_le (x : Ex) : x.dp ≤ x.size := by
  unfold Ex.dp
  have := Ex.depth_le x
  split <;> omega
mutual
theorem St.deep_le : ∀ x : St, x.deep ≤ x.wt
  | .mk _ _ _ e a g _ _ bd el => by
    have h1 := Sts.deep_le bd
    have h2 := Sts.deep_le el
    have h3 := Exs.deepest_le g
    have h4 := Ex.dp_le e
    have h5 := Ex.dp_le a
    simp only [St.deep, St.wt]
    omega
theorem Sts.deep_le : ∀ l : Sts, l.deep ≤ l.wt
  | .nil => by simp [Sts.deep]
  | .cons x r => by
    have h1 := St.deep_le x
    have h2 := Sts.deep_le r
    simp only [Sts.deep, Sts.wt]
    omega
end
def RDS (n : Nat) : Prop := ∀ l : Sts, l.size < n → l.wt ≤ 1000000 → ∀ (p : Option Addr) (c N : Nat) (w : World), l.In w N p → N ≤ w.heap.size →
    Calls Tryz.prog 134 #[.slice p l.len c] w fun e w' => e = .returned (.int .i64 (l.deep : Nat)) ∧ Below w.heap.size w w'
set_option maxRecDepth 100000 in
set_option maxHeartbeats 12800000 in
theorem rds_step (n : Nat) (ih : RDS n) : RDS (n + 1) := by
  intro l hsz hM p cl N w h1 hN
  have S1 := Lib.hid h1
  have IH := Lib.hid ih
  have hm1 := h1.1
  have HNN := Lib.hid hN
  have hls : l.size ≤ n := by omega
  clear h1 ih hN hsz
  go_enter Tryz.func134, Tryz.ntmps134
  go_wp2_with fail
  go_loopw [3, 4] (fun t i wr => ∃ (k v : Nat) (r : Sts), t = .int .i64 v ∧ i = .int .i64 k ∧ k + r.len = l.len ∧ r.size ≤ n ∧ Hid (∀ b o, p = some ⟨b, o, none⟩ → l.At w N b o → r.At w N b (o + k * 16)) ∧ v ≤ 1000001 ∧ r.wt ≤ 1000000 ∧ Hid (l.deep = max v r.deep) ∧ Hid (Below w.heap.size w wr)) (fun _ i _ => l.len - (intOf i).toNat)
  case atStart => exact ⟨0, 0, l, rfl, rfl, by omega, hls, Lib.hid fun b o _ h => by rw [Nat.zero_mul]; exact h, by omega, hM, Lib.hid (by omega), Lib.hid (Below.refl _ _)⟩
  case round =>
    obtain ⟨k, v, r, rfl, rfl, hk, hrs, hat, hv, hwt, hE, hB⟩ := hrel
    cases r with
    | nil =>
      simp only [Sts.len] at hk
      have hge : ¬ k < l.len := by omega
      go_wp2_with fail
      go_ret
      exact ⟨ret_int (by rw [hE.out]; simp [Sts.deep]), hB.out⟩
    | cons x r =>
      simp only [Sts.len] at hk
      simp only [Sts.size] at hrs
      simp only [Sts.wt] at hwt
      have hlt : k < l.len := by omega
      obtain ⟨wo, rfl⟩ : ∃ wo : World, wo = wr := ⟨_, rfl⟩
      · rcases S1.out.2 with h30 | ⟨b, o, rfl, hb, ha⟩
        · omega
        obtain ⟨hx, hr⟩ := hat.out b o rfl ha
        have HR := Lib.hid hr
        obtain ⟨s, c1, ok1⟩ := St.At.openP (St.At.later (hB.out.mono HNN.out) (Nat.le_trans HNN.out hB.out.size) x b _ hb hx)
        have hbl : b < wo.heap.size := by have := hB.out.size; have := HNN.out; omega
        obtain ⟨A1, hA1⟩ : ∃ A1, x.cells s = A1 := ⟨_, rfl⟩
        have HZ1 := Lib.hid (show A1.size = 16 by rw [← hA1]; rfl)
        have HO1 := Lib.hid (show A1.all (·.oneCell') = true by rw [← hA1]; exact oneSt _ _)
        have F1 := Lib.hid (show wo.rangeAt b (o + k * 16) A1.toList from fun j z hz => c1 j z (by rw [hA1, ← Array.getElem?_toList]; exact hz))
        have HI1 := Lib.hid (infoSt.trans (by rw [HZ1.out]) : (Tryz.prog.info? 54).map (·.size) = some A1.size)
        obtain ⟨W1, hW1⟩ : ∃ W1, wo.alloc (Obj.cells A1 54) = W1 := ⟨_, rfl⟩
        have HW1 := Lib.hid (show Below w.heap.size w W1 by rw [← hW1]; exact hB.out.trans (((Below.refl _ wo).alloc (Nat.le_refl _) _).mono hB.out.size))
        have HWr := Lib.hid (show Below wo.heap.size wo W1 by rw [← hW1]; exact (Below.refl _ wo).alloc (Nat.le_refl _) _)
        have hws : wo.heap.size < W1.heap.size := by rw [← hW1]; simp
        have HXA := Lib.hid (fun w1 hb => cells_later (w0 := W1) (w1 := w1) (b := wo.heap.size) (A := A1) (t := 54) (by rw [← hW1]; exact heap_alloc_new wo _) hb)
        go_wp2_with (first | (refine wpl_load rfl 54 _ rfl b (o + k * 16) rfl A1 _ F1.out Tryz.underlying54 rfl HI1.out ?_) | (refine wpl_store_new rfl 54 _ _ rfl _ A1 _ rfl rfl (by rw [HZ1.out]; rfl) HI1.out HO1.out ?_))
        rw [hW1]
        obtain ⟨kd, nm, ns, e, a, g, lo, hi, bd, el⟩ := x
        have HXC := Lib.hid (show ∀ w1, Below W1.heap.size W1 w1 → ∀ j z, (#[.int .i64 kd, .string (str nm), .slice s.pn ns.length s.cn, .int .i64 e.op, .int .u64 (e.word : Int), .string (str e.name), .slice s.pe e.args.len s.ce, .int .i64 a.op, .int .u64 (a.word : Int), .string (str a.name), .slice s.pa a.args.len s.ca, .slice s.pg g.len s.cg, .int .u64 (lo : Int), .int .u64 (hi : Int), .slice s.pb bd.len s.cb, .slice s.pl el.len s.cl] : Array Value)[j]? = some z → w1.cell? ⟨wo.heap.size, j, none⟩ = some z from fun w1 hb j z hz => HXA.out w1 hb j z (by rw [← hA1]; exact hz))
        simp only [St.size] at hrs
        simp only [St.wt] at hwt
        have HE := Lib.hid (fun (w1 : World) (hb : Below wo.heap.size wo w1) => rdepth_any e (by omega) s.pe s.ce wo.heap.size w1 (ok1.2.1.later hb (Nat.le_refl _)) hb.size)
        have HA := Lib.hid (fun (w1 : World) (hb : Below wo.heap.size wo w1) => rdepth_any a (by omega) s.pa s.ca wo.heap.size w1 (ok1.2.2.1.later hb (Nat.le_refl _)) hb.size)
        have HEn := Lib.hid (fun (w1 : World) => rNone_any e s.pe s.ce w1)
        have HAn := Lib.hid (fun (w1 : World) => rNone_any a s.pa s.ca w1)
        have HBd := Lib.hid (fun (w1 : World) (hb : Below wo.heap.size wo w1) => IH.out bd (by omega) (by omega) s.pb s.cb wo.heap.size w1 (ok1.2.2.2.2.1.later hb (Nat.le_refl _)) hb.size)
        have HEl := Lib.hid (fun (w1 : World) (hb : Below wo.heap.size wo w1) => IH.out el (by omega) (by omega) s.pl s.cl wo.heap.size w1 (ok1.2.2.2.2.2.1.later hb (Nat.le_refl _)) hb.size)
        have HOK := Lib.hid ok1
        unfold Ex.val at HE HA HEn HAn
        have hE' : l.deep = max v (max (max (max (max (max bd.deep el.deep) g.deepest) e.dp) a.dp + 1) r.deep) := by have := hE.out; simpa only [Sts.deep, St.deep] using this
        have HE2 := Lib.hid hE'
        have b1 := Sts.deep_le bd
        have b2 := Sts.deep_le el
        have b3 := Ex.dp_le e
        have b4 := Ex.dp_le a
        clear ok1 F1 HZ1 HO1 HI1 HXA hA1 c1 hx hr ha hE' hE
        generalize bd.deep = db at HBd HE2 b1
        generalize el.deep = de at HEl HE2 b2
        obtain ⟨m1, hm1e⟩ : ∃ m, m = max db de := ⟨_, rfl⟩
        have hmx : max (db : Int) (de : Int) = (m1 : Int) := by omega
        rw [← hm1e] at HE2
        have hm1b : m1 ≤ 1000000 := by omega
        clear hm1e
        go_upto_region 6 with fail
        simp only [Act.put]
        go_cut [6] from 18 to 24 (fun s6 wx => s6 = .int .i64 (m1 : Nat) ∧ Hid (Below wo.heap.size wo wx) ∧ Hid (Below W1.heap.size W1 wx))
        case first =>
          have HS1 : Below wo.heap.size wo W1.drew := HWr.out.drew
          have HS2 : Below W1.heap.size W1 W1.drew := (Below.refl _ _).drew
          refine wp_region_held_drew (S := fun W => Below wo.heap.size wo W ∧ Below W1.heap.size W1 W ∧ W.cell? ⟨wo.heap.size, 14, none⟩ = some (.slice s.pb bd.len s.cb) ∧ W.cell? ⟨wo.heap.size, 15, none⟩ = some (.slice s.pl el.len s.cl)) (by kernel_rfl) ?_ (fun hHeld => ?_)
          · exact ⟨HS1, HS2, HXC.out _ HS2 14 _ rfl, HXC.out _ HS2 15 _ rfl⟩
          refine wpAnyH_take (i := 0) (oi := ⟨some 18, .fieldAddr 54 (.tmp 5) 8, 0, "ref.go:53", #[], none⟩) (v := ?_) rfl (by kernel_rfl) (by kernel_rfl) (by kernel_rfl) (fun _ _ _ h => h) (Or.inl ⟨by rfl, ?_⟩) (by assumption) ?_
          rotate_left
          · (intro w hSw; (try dsimp only at hSw); go_simp; try with_reducible rfl)
          try simp only [Act.put, List.setIfInBounds_toArray, List.set_cons_zero, List.set_cons_succ]
          refine wpAnyH_take (i := 1) (oi := ⟨some 19, .load 47 (.tmp 18), 47, "ref.go:53", #[⟨0, .data⟩], none⟩) (v := ?_) rfl (by kernel_rfl) (by kernel_rfl) (by kernel_rfl) (fun _ _ _ h => h) (Or.inl ⟨by rfl, ?_⟩) (by assumption) ?_
          rotate_left
          · (intro w hSw; (try dsimp only at hSw); go_simp; try with_reducible rfl)
          try simp only [Act.put, List.setIfInBounds_toArray, List.set_cons_zero, List.set_cons_succ]
          refine wpAnyH_take (i := 3) (oi := ⟨some 21, .fieldAddr 54 (.tmp 5) 9, 0, "ref.go:53", #[], none⟩) (v := ?_) rfl (by kernel_rfl) (by kernel_rfl) (by kernel_rfl) (fun _ _ _ h => h) (Or.inl ⟨by rfl, ?_⟩) (by assumption) ?_
          rotate_left
          · (intro w hSw; (try dsimp only at hSw); go_simp; try with_reducible rfl)
          try simp only [Act.put, List.setIfInBounds_toArray, List.set_cons_zero, List.set_cons_succ]
          refine wpAnyH_take (i := 4) (oi := ⟨some 22, .load 47 (.tmp 21), 47, "ref.go:53", #[⟨3, .data⟩], none⟩) (v := ?_) rfl (by kernel_rfl) (by kernel_rfl) (by kernel_rfl) (fun _ _ _ h => h) (Or.inl ⟨by rfl, ?_⟩) (by assumption) ?_
          rotate_left
          · (intro w hSw; (try dsimp only at hSw); go_simp; try with_reducible rfl)
          try simp only [Act.put, List.setIfInBounds_toArray, List.set_cons_zero, List.set_cons_succ]
          refine wpAnyH_ready (rs := [2]) (by kernel_rfl) (by simp) ?_
          refine AllReadyH.cons (o := ⟨some 20, .call { callee := .value (.func 134), args := #[.tmp 19], argTypes := #[47] }, 3, "ref.go:53", #[⟨1, .data⟩], none⟩) rfl (fun K hK => ?_) AllReadyH.nil
          go_simp
          refine (HBd.out _ HS1).mono ?_
          rintro z w2 ⟨rfl, hB2⟩
          replace HS2 := HS2.trans (hB2.mono HS2.size)
          replace HS1 := HS1.trans (hB2.mono HS1.size)
          clear hB2
          refine hK.out _ _ ?_ (fun hHeld => ?_)
          · exact ⟨HS1, HS2, HXC.out _ HS2 14 _ rfl, HXC.out _ HS2 15 _ rfl⟩
          clear hK K
          try simp only [Act.put, List.setIfInBounds_toArray, List.set_cons_zero, List.set_cons_succ]
          refine wpAnyH_ready (rs := [5]) (by kernel_rfl) (by simp) ?_
          refine AllReadyH.cons (o := ⟨some 23, .call { callee := .value (.func 134), args := #[.tmp 22], argTypes := #[47] }, 3, "ref.go:53", #[⟨4, .data⟩, ⟨2, .chain⟩], none⟩) rfl (fun K hK => ?_) AllReadyH.nil
          go_simp
          refine (HEl.out _ HS1).mono ?_
          rintro z w3 ⟨rfl, hB2⟩
          replace HS2 := HS2.trans (hB2.mono HS2.size)
          replace HS1 := HS1.trans (hB2.mono HS1.size)
          clear hB2
          refine hK.out _ _ ?_ (fun hHeld => ?_)
          · exact ⟨HS1, HS2, HXC.out _ HS2 14 _ rfl, HXC.out _ HS2 15 _ rfl⟩
          clear hK K
          try simp only [Act.put, List.setIfInBounds_toArray, List.set_cons_zero, List.set_cons_succ]
          refine wpAnyH_take (i := 6) (oi := ⟨some 24, .call { callee := .builtin .max, args := #[.tmp 20, .tmp 23], argTypes := #[3, 3] }, 3, "ref.go:53", #[⟨2, .data⟩, ⟨5, .data⟩], none⟩) (v := .int .i64 (m1 : Nat)) rfl (by kernel_rfl) (by kernel_rfl) (by kernel_rfl) (fun _ _ _ h => h) (Or.inl ⟨by rfl, ?_⟩) (by assumption) ?_
          · (intro w hSw; (try dsimp only at hSw); go_simp; (try rw [hmx]))
          try simp only [Act.put, List.setIfInBounds_toArray, List.set_cons_zero, List.set_cons_succ]
          refine wpAnyH_take (i := 7) (oi := ⟨some 6, .assign (.tmp 24), 3, "ref.go:53", #[⟨6, .data⟩, ⟨5, .chain⟩, ⟨0, .phase⟩, ⟨1, .phase⟩, ⟨2, .phase⟩, ⟨3, .phase⟩, ⟨4, .phase⟩, ⟨5, .phase⟩, ⟨6, .phase⟩], none⟩) (v := ?_) rfl (by kernel_rfl) (by kernel_rfl) (by kernel_rfl) (fun _ _ _ h => h) (Or.inl ⟨by rfl, ?_⟩) (by assumption) ?_
          rotate_left
          · (intro w hSw; (try dsimp only at hSw); go_simp; try with_reducible rfl)
          try simp only [Act.put, List.setIfInBounds_toArray, List.set_cons_zero, List.set_cons_succ]
          refine wpAnyH_done (by kernel_rfl) ?_ _
          go_wp2_with fail
          go_meet
          exact ⟨rfl, Lib.hid HS1, Lib.hid HS2⟩
        case rest =>
          obtain ⟨rfl, HS1, HS2⟩ := hcut
          clear HBd HEl hmx
          go_wp2_with fail
          go_loopw [6, 7] (fun t i wx => ∃ (j m2 : Nat) (y : Exs), t = .int .i64 m2 ∧ i = .int .i64 j ∧ j + y.len = g.len ∧ Hid (∀ b o, s.pg = some ⟨b, o, none⟩ → g.At wo wo.heap.size b o → y.At wo wo.heap.size b (o + j * 4)) ∧ m2 ≤ 1000000 ∧ y.size ≤ 1000000 ∧ Hid (l.deep = max v (max (max (max (max m2 y.deepest) e.dp) a.dp + 1) r.deep)) ∧ Hid (Below W1.heap.size W1 wx)) (fun _ i _ => g.len - (intOf i).toNat)
          case atStart => exact ⟨0, m1, g, rfl, rfl, by omega, Lib.hid fun b o _ h => by rw [Nat.zero_mul]; exact h, hm1b, by omega, HE2, HS2⟩
          case round =>
            clear HE2 HS1 HS2 hm1b
            obtain ⟨j, m2, y, rfl, rfl, hk3, hat3, hm2b, hy6, hE3, HB3⟩ := hrel
            have gx3 : wr.cell? ⟨wo.heap.size, 11, none⟩ = some (.slice s.pg g.len s.cg) := HXC.out _ HB3.out 11 _ rfl
            have hm3 : g.len ≤ 140737488355328 := HOK.out.2.2.2.1.1
            cases y with
            | nil =>
              simp only [Exs.len] at hk3
              have hge3 : ¬ j < g.len := by omega
              have HE4 := Lib.hid (show l.deep = max v (max (max (max m2 e.dp) a.dp + 1) r.deep) by have := hE3.out; simpa [Exs.deepest] using this)
              clear hE3
              have xe0 : wr.cell? ⟨wo.heap.size, 3, none⟩ = some (.int .i64 e.op) := HXC.out _ HB3.out 3 _ rfl
              have xe1 : wr.cell? ⟨wo.heap.size, 4, none⟩ = some (.int .u64 (e.word : Int)) := HXC.out _ HB3.out 4 _ rfl
              have xe2 : wr.cell? ⟨wo.heap.size, 5, none⟩ = some (.string (str e.name)) := HXC.out _ HB3.out 5 _ rfl
              have xe3 : wr.cell? ⟨wo.heap.size, 6, none⟩ = some (.slice s.pe e.args.len s.ce) := HXC.out _ HB3.out 6 _ rfl
              go_wp2_with fail
              refine (HEn.out _).mono ?_
              rintro q20 w20 ⟨rfl, hB4⟩
              replace HB3 := Lib.hid (HB3.out.trans (hB4.mono HB3.out.size))
              clear hB4 xe0 xe1 xe2 xe3
              cases hne : e.none with
              | true =>
                have de : e.dp = 0 := by unfold Ex.dp; rw [hne]; rfl
                have xa0 : w20.cell? ⟨wo.heap.size, 7, none⟩ = some (.int .i64 a.op) := HXC.out _ HB3.out 7 _ rfl
                have xa1 : w20.cell? ⟨wo.heap.size, 8, none⟩ = some (.int .u64 (a.word : Int)) := HXC.out _ HB3.out 8 _ rfl
                have xa2 : w20.cell? ⟨wo.heap.size, 9, none⟩ = some (.string (str a.name)) := HXC.out _ HB3.out 9 _ rfl
                have xa3 : w20.cell? ⟨wo.heap.size, 10, none⟩ = some (.slice s.pa a.args.len s.ca) := HXC.out _ HB3.out 10 _ rfl
                go_wp2_with fail
                refine (HAn.out _).mono ?_
                rintro q21 w21 ⟨rfl, hB4⟩
                replace HB3 := Lib.hid (HB3.out.trans (hB4.mono HB3.out.size))
                clear hB4 xa0 xa1 xa2 xa3
                cases hna : a.none with
                | true =>
                  have da : a.dp = 0 := by unfold Ex.dp; rw [hna]; rfl
                  have hfin : l.deep = max (max v (m2 + 1)) r.deep := by have := HE4.out; (try have t20 := HM20.out); (try have t21 := HM21.out); (try have t22 := HM22.out); (try have t23 := HM23.out); (try have t24 := HM24.out); (try have t25 := HM25.out); (try have t26 := HM26.out); (try have t27 := HM27.out); (try have t28 := HM28.out); (try have t29 := HM29.out); omega
                  have HFin := Lib.hid hfin
                  have hz1 : IntKind.i64.wrap ((m2 : Int) + 1) = (m2 : Int) + 1 := IntWalk.i64_in _ (by omega)
                  have hz2 : max (v : Int) ((m2 : Int) + 1) = ((max v (m2 + 1) : Nat) : Int) := by omega
                  clear hfin
                  go_wp2_with fail
                  go_roundw
                  case rel => exact ⟨k + 1, max v (m2 + 1), r, rfl, by go_num, by omega, by omega, Lib.hid fun b' o' e _ => by cases e; rw [show o + (k + 1) * 16 = o + k * 16 + 16 by omega]; exact HR.out, by omega, by omega, HFin, Lib.hid (HW1.out.trans (HB3.out.mono HW1.out.size))⟩
                  case measure => simp [intOf]; omega
                | false =>
                  have da : a.dp = a.depth := by unfold Ex.dp; rw [hna]; rfl
                  have xa0 : w21.cell? ⟨wo.heap.size, 7, none⟩ = some (.int .i64 a.op) := HXC.out _ HB3.out 7 _ rfl
                  have xa1 : w21.cell? ⟨wo.heap.size, 8, none⟩ = some (.int .u64 (a.word : Int)) := HXC.out _ HB3.out 8 _ rfl
                  have xa2 : w21.cell? ⟨wo.heap.size, 9, none⟩ = some (.string (str a.name)) := HXC.out _ HB3.out 9 _ rfl
                  have xa3 : w21.cell? ⟨wo.heap.size, 10, none⟩ = some (.slice s.pa a.args.len s.ca) := HXC.out _ HB3.out 10 _ rfl
                  have HD := Lib.hid (HA.out w21 (HWr.out.trans (HB3.out.mono HWr.out.size)))
                  rw [← da] at HD
                  obtain ⟨dav, hdav⟩ : ∃ d, a.dp = d := ⟨_, rfl⟩
                  rw [hdav] at HD
                  go_wp2_with fail
                  refine HD.out.mono ?_
                  rintro q21' w21' ⟨rfl, hB4⟩
                  replace HB3 := Lib.hid (HB3.out.trans (hB4.mono HB3.out.size))
                  clear hB4 HD xa0 xa1 xa2 xa3
                  obtain ⟨m21, hm21⟩ : ∃ m, m = max m2 dav := ⟨_, rfl⟩
                  have hx21 : max (m2 : Int) (dav : Int) = (m21 : Int) := by omega
                  have hy21 : m21 ≤ 1000000 := by omega
                  have HM21 := Lib.hid hm21
                  clear hm21
                  have hfin : l.deep = max (max v (m21 + 1)) r.deep := by have := HE4.out; (try have t20 := HM20.out); (try have t21 := HM21.out); (try have t22 := HM22.out); (try have t23 := HM23.out); (try have t24 := HM24.out); (try have t25 := HM25.out); (try have t26 := HM26.out); (try have t27 := HM27.out); (try have t28 := HM28.out); (try have t29 := HM29.out); omega
                  have HFin := Lib.hid hfin
                  have hz1 : IntKind.i64.wrap ((m21 : Int) + 1) = (m21 : Int) + 1 := IntWalk.i64_in _ (by omega)
                  have hz2 : max (v : Int) ((m21 : Int) + 1) = ((max v (m21 + 1) : Nat) : Int) := by omega
                  clear hfin
                  go_wp2_with fail
                  go_roundw
                  case rel => exact ⟨k + 1, max v (m21 + 1), r, rfl, by go_num, by omega, by omega, Lib.hid fun b' o' e _ => by cases e; rw [show o + (k + 1) * 16 = o + k * 16 + 16 by omega]; exact HR.out, by omega, by omega, HFin, Lib.hid (HW1.out.trans (HB3.out.mono HW1.out.size))⟩
                  case measure => simp [intOf]; omega
              | false =>
                have de : e.dp = e.depth := by unfold Ex.dp; rw [hne]; rfl
                have xe0 : w20.cell? ⟨wo.heap.size, 3, none⟩ = some (.int .i64 e.op) := HXC.out _ HB3.out 3 _ rfl
                have xe1 : w20.cell? ⟨wo.heap.size, 4, none⟩ = some (.int .u64 (e.word : Int)) := HXC.out _ HB3.out 4 _ rfl
                have xe2 : w20.cell? ⟨wo.heap.size, 5, none⟩ = some (.string (str e.name)) := HXC.out _ HB3.out 5 _ rfl
                have xe3 : w20.cell? ⟨wo.heap.size, 6, none⟩ = some (.slice s.pe e.args.len s.ce) := HXC.out _ HB3.out 6 _ rfl
                have HD := Lib.hid (HE.out w20 (HWr.out.trans (HB3.out.mono HWr.out.size)))
                rw [← de] at HD
                obtain ⟨dev, hdev⟩ : ∃ d, e.dp = d := ⟨_, rfl⟩
                rw [hdev] at HD
                go_wp2_with fail
                refine HD.out.mono ?_
                rintro q20' w20' ⟨rfl, hB4⟩
                replace HB3 := Lib.hid (HB3.out.trans (hB4.mono HB3.out.size))
                clear hB4 HD xe0 xe1 xe2 xe3
                obtain ⟨m20, hm20⟩ : ∃ m, m = max m2 dev := ⟨_, rfl⟩
                have hx20 : max (m2 : Int) (dev : Int) = (m20 : Int) := by omega
                have hy20 : m20 ≤ 1000000 := by omega
                have HM20 := Lib.hid hm20
                clear hm20
                have xa0 : w20'.cell? ⟨wo.heap.size, 7, none⟩ = some (.int .i64 a.op) := HXC.out _ HB3.out 7 _ rfl
                have xa1 : w20'.cell? ⟨wo.heap.size, 8, none⟩ = some (.int .u64 (a.word : Int)) := HXC.out _ HB3.out 8 _ rfl
                have xa2 : w20'.cell? ⟨wo.heap.size, 9, none⟩ = some (.string (str a.name)) := HXC.out _ HB3.out 9 _ rfl
                have xa3 : w20'.cell? ⟨wo.heap.size, 10, none⟩ = some (.slice s.pa a.args.len s.ca) := HXC.out _ HB3.out 10 _ rfl
                go_wp2_with fail
                refine (HAn.out _).mono ?_
                rintro q22 w22 ⟨rfl, hB4⟩
                replace HB3 := Lib.hid (HB3.out.trans (hB4.mono HB3.out.size))
                clear hB4 xa0 xa1 xa2 xa3
                cases hna : a.none with
                | true =>
                  have da : a.dp = 0 := by unfold Ex.dp; rw [hna]; rfl
                  have hfin : l.deep = max (max v (m20 + 1)) r.deep := by have := HE4.out; (try have t20 := HM20.out); (try have t21 := HM21.out); (try have t22 := HM22.out); (try have t23 := HM23.out); (try have t24 := HM24.out); (try have t25 := HM25.out); (try have t26 := HM26.out); (try have t27 := HM27.out); (try have t28 := HM28.out); (try have t29 := HM29.out); omega
                  have HFin := Lib.hid hfin
                  have hz1 : IntKind.i64.wrap ((m20 : Int) + 1) = (m20 : Int) + 1 := IntWalk.i64_in _ (by omega)
                  have hz2 : max (v : Int) ((m20 : Int) + 1) = ((max v (m20 + 1) : Nat) : Int) := by omega
                  clear hfin
                  go_wp2_with fail
                  go_roundw
                  case rel => exact ⟨k + 1, max v (m20 + 1), r, rfl, by go_num, by omega, by omega, Lib.hid fun b' o' e _ => by cases e; rw [show o + (k + 1) * 16 = o + k * 16 + 16 by omega]; exact HR.out, by omega, by omega, HFin, Lib.hid (HW1.out.trans (HB3.out.mono HW1.out.size))⟩
                  case measure => simp [intOf]; omega
                | false =>
                  have da : a.dp = a.depth := by unfold Ex.dp; rw [hna]; rfl
                  have xa0 : w22.cell? ⟨wo.heap.size, 7, none⟩ = some (.int .i64 a.op) := HXC.out _ HB3.out 7 _ rfl
                  have xa1 : w22.cell? ⟨wo.heap.size, 8, none⟩ = some (.int .u64 (a.word : Int)) := HXC.out _ HB3.out 8 _ rfl
                  have xa2 : w22.cell? ⟨wo.heap.size, 9, none⟩ = some (.string (str a.name)) := HXC.out _ HB3.out 9 _ rfl
                  have xa3 : w22.cell? ⟨wo.heap.size, 10, none⟩ = some (.slice s.pa a.args.len s.ca) := HXC.out _ HB3.out 10 _ rfl
                  have HD := Lib.hid (HA.out w22 (HWr.out.trans (HB3.out.mono HWr.out.size)))
                  rw [← da] at HD
                  obtain ⟨dav, hdav⟩ : ∃ d, a.dp = d := ⟨_, rfl⟩
                  rw [hdav] at HD
                  go_wp2_with fail
                  refine HD.out.mono ?_
                  rintro q22' w22' ⟨rfl, hB4⟩
                  replace HB3 := Lib.hid (HB3.out.trans (hB4.mono HB3.out.size))
                  clear hB4 HD xa0 xa1 xa2 xa3
                  obtain ⟨m22, hm22⟩ : ∃ m, m = max m20 dav := ⟨_, rfl⟩
                  have hx22 : max (m20 : Int) (dav : Int) = (m22 : Int) := by omega
                  have hy22 : m22 ≤ 1000000 := by omega
                  have HM22 := Lib.hid hm22
                  clear hm22
                  have hfin : l.deep = max (max v (m22 + 1)) r.deep := by have := HE4.out; (try have t20 := HM20.out); (try have t21 := HM21.out); (try have t22 := HM22.out); (try have t23 := HM23.out); (try have t24 := HM24.out); (try have t25 := HM25.out); (try have t26 := HM26.out); (try have t27 := HM27.out); (try have t28 := HM28.out); (try have t29 := HM29.out); omega
                  have HFin := Lib.hid hfin
                  have hz1 : IntKind.i64.wrap ((m22 : Int) + 1) = (m22 : Int) + 1 := IntWalk.i64_in _ (by omega)
                  have hz2 : max (v : Int) ((m22 : Int) + 1) = ((max v (m22 + 1) : Nat) : Int) := by omega
                  clear hfin
                  go_wp2_with fail
                  go_roundw
                  case rel => exact ⟨k + 1, max v (m22 + 1), r, rfl, by go_num, by omega, by omega, Lib.hid fun b' o' e _ => by cases e; rw [show o + (k + 1) * 16 = o + k * 16 + 16 by omega]; exact HR.out, by omega, by omega, HFin, Lib.hid (HW1.out.trans (HB3.out.mono HW1.out.size))⟩
                  case measure => simp [intOf]; omega
            | cons z y =>
              simp only [Exs.len] at hk3
              simp only [Exs.size] at hy6
              have hlt3 : j < g.len := by omega
              · rcases (show g.In wo wo.heap.size s.pg from HOK.out.2.2.2.1).2 with h30 | ⟨b3, o3, hp3, hb3, ha3⟩
                · omega
                obtain ⟨hz, hzr⟩ := hat3.out b3 o3 hp3 ha3
                have hBo : Below wo.heap.size wo wr := HWr.out.trans (HB3.out.mono HWr.out.size)
                obtain ⟨q, cq, d0, d1, d2, d3, hokz⟩ := (Ex.At.later hBo hBo.size z b3 _ hb3 hz).open'
                rw [hp3] at gx3
                have HC3 := Lib.hid (rdepth_any z (by omega) q cq wr.heap.size wr hokz (Nat.le_refl _))
                have hzd := Ex.depth_le z
                unfold Ex.val at HC3
                have HZR := Lib.hid hzr
                have HH := Lib.hid hp3
                have hmx2 : max (m2 : Int) (z.depth : Int) = ((max m2 z.depth : Nat) : Int) := by omega
                have HE4 := Lib.hid (show l.deep = max v (max (max (max (max (max m2 z.depth) y.deepest) e.dp) a.dp + 1) r.deep) by have := hE3.out; simp only [Exs.deepest] at this; omega)
                clear ha3 hz hzr hokz hp3 hat3 hBo hE3
                generalize z.depth = dz at HC3 hzd hmx2 HE4
                go_wp2_with fail
                refine HC3.out.mono ?_
                rintro e3 w3 ⟨rfl, hB4⟩
                have HB5 := Lib.hid (HB3.out.trans (hB4.mono HB3.out.size))
                clear hB4 HC3 d0 d1 d2 d3
                go_wp2_with fail
                go_roundw
                case rel => exact ⟨j + 1, max m2 dz, y, by rw [← hmx2], by go_num, by omega, Lib.hid fun b o hbo _ => by have := HH.out.symm.trans hbo; cases this; rw [show o3 + (j + 1) * 4 = o3 + j * 4 + 4 by omega]; exact HZR.out, by omega, by omega, HE4, HB5⟩
                case measure => simp [intOf]; omega
theorem rds_to : ∀ n, RDS n
  | 0 => fun _ h => absurd h (Nat.not_lt_zero _)
  | n + 1 => rds_step n (rds_to n)
/-- the document's Deep of any statements that are not too many -/
theorem rDeep_any (l : Sts) (h6 : l.wt ≤ 1000000) (p : Option Addr) (c N : Nat) (w : World) (h : l.In w N p) (hN : N ≤ w.heap.size) :
    Calls Tryz.prog 134 #[.slice p l.len c] w fun e w' => e = .returned (.int .i64 (l.deep : Nat)) ∧ Below w.heap.size w w' :=
  rds_to _ l (Nat.lt_succ_self _) h6 p c N w h hN
end Go.Proofs.YtlhbledakddbbaaGreatDoor
/- Which statements, functions and programs can be told, and their lines. -/
namespace Go.Proofs.YtlhbledakddbbaaGreatDoor
open Go.RowKit

def namesB (l : List (List UInt8)) : Bool := l.all nameB
/-- nothing, as an expression -/
def E0 : Ex := .mk 0 0 [] .nil
def St.isZero : St → Bool
  | .mk kd nm ns e a g lo hi bd el => decide (kd = 0) && (nm.isEmpty && (decide (ns.length = 0) && (e.none && (a.none && (decide (g.len = 0) && (decide (lo = 0) && (decide (hi = 0) && (decide (bd.len = 0) && decide (el.len = 0)))))))))
/-- what a statement has besides what its kind names -/
def restSt (kd : Int) (nm : List UInt8) (ns : List (List UInt8)) (e a : Ex) (g : Exs) (lo hi : Nat) (bd el : Sts) : St :=
  if kd = 1 then .mk 0 [] ns E0 a g lo hi bd el
  else if kd = 2 then .mk 0 [] ns E0 E0 g lo hi bd el
  else if kd = 3 then .mk 0 nm ns E0 a g lo hi .nil .nil
  else if kd = 4 then .mk 0 nm ns E0 a g lo hi .nil el
  else if kd = 5 then .mk 0 [] ns e a g 0 0 .nil el
  else if kd = 6 then .mk 0 [] [] e a .nil lo hi bd el
  else .mk 0 nm ns e a g lo hi bd el
mutual
def St.may : St → Bool
  | .mk kd nm ns e a g lo hi bd el =>
    (if kd = 1 then nameB nm && e.may
     else if kd = 2 then nameB nm && (a.may && e.may)
     else if kd = 3 then e.may && (bd.may && el.may)
     else if kd = 4 then e.may && bd.may
     else if kd = 5 then nameB nm && bd.may
     else if kd = 6 then nameB nm && (namesB ns && g.may)
     else false) && (restSt kd nm ns e a g lo hi bd el).isZero
def Sts.may : Sts → Bool
  | .nil => true
  | .cons x r => x.may && r.may
end
/-- statements that can be told -/
def Sts.can (l : Sts) : Bool := decide (l.deep ≤ 64) && l.may

def secT (s : Bool) : List UInt8 := if s then [32, 115, 101, 99, 114, 101, 116] else []
/-- a statement's first line -/
def firstT (kd : Int) (nm : List UInt8) (ns : List (List UInt8)) (et aT : List UInt8) (gt : List (List UInt8)) (lo hi : Nat) : List UInt8 :=
  if kd = 1 then nm ++ [32, 61, 32] ++ et ++ [59]
  else if kd = 2 then (nm ++ [91] ++ aT ++ [93]) ++ [32, 61, 32] ++ et ++ [59]
  else if kd = 3 then [105, 102, 32] ++ et ++ [32, 123]
  else if kd = 4 then [119, 104, 105, 108, 101, 32] ++ et ++ [32, 123]
  else if kd = 5 then [102, 111, 114, 32] ++ nm ++ [32] ++ Lib.decDigits lo ++ [32] ++ Lib.decDigits hi ++ [32, 123]
  else if ns.length = 0 then (nm ++ ([40] ++ Lib.join gt [44, 32] ++ [41])) ++ [59]
  else Lib.join ns [44, 32] ++ [32, 61, 32] ++ ((nm ++ ([40] ++ Lib.join gt [44, 32] ++ [41])) ++ [59])
def St.first (x : St) : List UInt8 := firstT x.kind x.name x.names x.e.text x.a.text x.args.texts x.low x.high
def elseT : List UInt8 := [125, 32, 101, 108, 115, 101, 32, 123]
mutual
def St.lines : St → Nat → List (Nat × List UInt8)
  | .mk kd nm ns e a g lo hi bd el, t =>
    (t, firstT kd nm ns e.text a.text g.texts lo hi) :: (if kd = 3 ∨ kd = 4 ∨ kd = 5 then
      bd.lines (t + 1) ++ ((if el.len = 0 then [] else (t, elseT) :: el.lines (t + 1)) ++ [(t, [125])])
    else [])
def Sts.lines : Sts → Nat → List (Nat × List UInt8)
  | .nil, _ => []
  | .cons x r, t => x.lines t ++ r.lines t
end
def upL (x : Nat × List UInt8) : Nat × List UInt8 := (x.1 + 1, x.2)
mutual
theorem St.lines_up : ∀ (x : St) (t : Nat), x.lines (t + 1) = (x.lines t).map upL
  | .mk kd nm ns e a g lo hi bd el, t => by
    simp only [St.lines, List.map_cons]
    split
    · split
      · simp only [List.map_append, List.map_cons, List.map_nil, List.nil_append, Sts.lines_up bd (t + 1), upL]
      · simp only [List.map_append, List.map_cons, List.map_nil, Sts.lines_up bd (t + 1), Sts.lines_up el (t + 1), upL]
    · rfl
theorem Sts.lines_up : ∀ (l : Sts) (t : Nat), l.lines (t + 1) = (l.lines t).map upL
  | .nil, _ => rfl
  | .cons x r, t => by simp only [Sts.lines, List.map_append, St.lines_up x t, Sts.lines_up r t]
end

def Rgn.may (r : Rgn) : Bool := nameB r.name && (decide (0 ≤ r.addr) && decide (0 ≤ r.size))
def Vr.mayP (v : Vr) : Bool := nameB v.name && (decide (v.kind = 1) && decide (v.size = 0))
def Vr.may (v : Vr) : Bool := if v.kind = 1 then v.mayP && !v.secret else if v.kind = 2 ∨ v.kind = 3 then nameB v.name && decide (0 ≤ v.size) else false
def Fnc.may (f : Fnc) : Bool := nameB f.name && (f.params.all Vr.mayP && (f.vars.all Vr.may && (namesB f.rets && f.body.can)))
def Prg.may (p : Prg) : Bool := p.regs.all Rgn.may && p.fns.all Fnc.may
def Rgn.line (r : Rgn) : List UInt8 := [114, 101, 103, 105, 111, 110, 32] ++ r.name ++ [32] ++ Lib.decDigits r.addr.toNat ++ [32] ++ Lib.decDigits r.size.toNat ++ secT r.secret ++ [59]
def Vr.word (v : Vr) : List UInt8 := if v.kind = 2 then [97, 114, 114, 97, 121, 32] else [115, 116, 97, 99, 107, 32]
def Vr.line (v : Vr) : List UInt8 := if v.kind = 1 then [118, 97, 114, 32] ++ v.name ++ [59] else v.word ++ v.name ++ [32] ++ Lib.decDigits v.size.toNat ++ secT v.secret ++ [59]
def Vr.param (v : Vr) : List UInt8 := v.name ++ secT v.secret
def Fnc.head (f : Fnc) : List UInt8 := ([102, 110, 32] ++ f.name ++ [40] ++ Lib.join (f.params.map Vr.param) [44, 32] ++ [41]) ++ (if f.rets.length = 0 then [] else [32, 45, 62, 32] ++ Lib.join f.rets [44, 32]) ++ [32, 123]
def Fnc.lines (f : Fnc) : List (Nat × List UInt8) := (0, f.head) :: (f.vars.map (fun v => (1, v.line)) ++ (f.body.lines 1 ++ [(0, [125])]))
def Prg.lines (p : Prg) : List (Nat × List UInt8) := p.regs.map (fun r => (0, r.line)) ++ p.fns.flatMap Fnc.lines
/-- lines as a text -/
def lineT (x : Nat × List UInt8) : List UInt8 := List.replicate x.1 9 ++ (x.2 ++ [10])
def linesT (l : List (Nat × List UInt8)) : List UInt8 := l.flatMap lineT
def Prg.text (p : Prg) : List UInt8 := linesT p.lines

theorem st_may_1 (nm : List UInt8) (ns : List (List UInt8)) (e a : Ex) (g : Exs) (lo hi : Nat) (bd el : Sts) : (St.mk 1 nm ns e a g lo hi bd el).may = ((nameB nm && e.may) && (St.mk 0 [] ns E0 a g lo hi bd el).isZero) := by simp [St.may, restSt]
theorem st_may_2 (nm : List UInt8) (ns : List (List UInt8)) (e a : Ex) (g : Exs) (lo hi : Nat) (bd el : Sts) : (St.mk 2 nm ns e a g lo hi bd el).may = ((nameB nm && (a.may && e.may)) && (St.mk 0 [] ns E0 E0 g lo hi bd el).isZero) := by simp [St.may, restSt]
theorem st_may_3 (nm : List UInt8) (ns : List (List UInt8)) (e a : Ex) (g : Exs) (lo hi : Nat) (bd el : Sts) : (St.mk 3 nm ns e a g lo hi bd el).may = ((e.may && (bd.may && el.may)) && (St.mk 0 nm ns E0 a g lo hi .nil .nil).isZero) := by simp [St.may, restSt]
theorem st_may_4 (nm : List UInt8) (ns : List (List UInt8)) (e a : Ex) (g : Exs) (lo hi : Nat) (bd el : Sts) : (St.mk 4 nm ns e a g lo hi bd el).may = ((e.may && bd.may) && (St.mk 0 nm ns E0 a g lo hi .nil el).isZero) := by simp [St.may, restSt]
theorem st_may_5 (nm : List UInt8) (ns : List (List UInt8)) (e a : Ex) (g : Exs) (lo hi : Nat) (bd el : Sts) : (St.mk 5 nm ns e a g lo hi bd el).may = ((nameB nm && bd.may) && (St.mk 0 [] ns e a g 0 0 .nil el).isZero) := by simp [St.may, restSt]
theorem st_may_6 (nm : List UInt8) (ns : List (List UInt8)) (e a : Ex) (g : Exs) (lo hi : Nat) (bd el : Sts) : (St.mk 6 nm ns e a g lo hi bd el).may = ((nameB nm && (namesB ns && g.may)) && (St.mk 0 [] [] e a .nil lo hi bd el).isZero) := by simp [St.may, restSt]
theorem st_may_no (kd : Int) (h : kd < 1 ∨ 6 < kd) (nm : List UInt8) (ns : List (List UInt8)) (e a : Ex) (g : Exs) (lo hi : Nat) (bd el : Sts) : (St.mk kd nm ns e a g lo hi bd el).may = false := by
  rw [St.may, if_neg (by omega), if_neg (by omega), if_neg (by omega), if_neg (by omega), if_neg (by omega), if_neg (by omega)]; rfl
end Go.Proofs.YtlhbledakddbbaaGreatDoor
/- How long lines are, how far in they stand, how they open and shut braces. -/
namespace Go.Proofs.YtlhbledakddbbaaGreatDoor
open Go.RowKit

mutual
def St.fine : St → Prop
  | .mk _ _ _ e a g lo hi bd el => (e.fine ∧ a.fine ∧ g.fine ∧ lo < 18446744073709551616 ∧ hi < 18446744073709551616) ∧ bd.fine ∧ el.fine
def Sts.fine : Sts → Prop
  | .nil => True
  | .cons x r => x.fine ∧ r.fine
end
theorem sumL_strs (l : List (List UInt8)) : sumL l ≤ 2 * strsT l := by
  induction l with
  | nil => exact Nat.le_refl _
  | cons x r ih => simp only [sumL, strsT]; omega
theorem first_eq (kd : Int) (nm : List UInt8) (ns : List (List UInt8)) (e a : Ex) (g : Exs) (lo hi : Nat) (bd el : Sts) : firstT kd nm ns e.text a.text g.texts lo hi = (St.mk kd nm ns e a g lo hi bd el).first := rfl
theorem first_len {x : St} (h : x.fine) : x.first.length ≤ 100 + 30 * x.total := by
  obtain ⟨kd, nm, ns, e, a, g, lo, hi, bd, el⟩ := x
  obtain ⟨⟨he, ha, hg, hlo, hhi⟩, _⟩ := h
  have h1 := e.text_le he
  have h2 := a.text_le ha
  have h3 := g.text_le hg
  have h4 := joinL_len g.texts
  have h5 := joinL_len ns
  have h6 := sumL_strs ns
  have h7 := dec_len hlo
  have h8 := dec_len hhi
  rw [← first_eq]
  simp only [St.total, firstT]
  repeat' split
  all_goals (simp only [List.length_append, List.length_cons, List.length_nil]; omega)
/-- each line: how far in, how long -/
def LnOk (t d m : Nat) (x : Nat × List UInt8) : Prop := t ≤ x.1 ∧ x.1 < t + d ∧ x.2.length ≤ 100 + 30 * m
mutual
theorem St.lines_ok : ∀ (x : St) (t : Nat), x.fine → ∀ y ∈ x.lines t, LnOk t x.deep x.total y
  | .mk kd nm ns e a g lo hi bd el, t, h => by
    have hf := first_len h
    have hb := Sts.lines_ok bd (t + 1) h.2.1
    have hl := Sts.lines_ok el (t + 1) h.2.2
    intro y hy
    simp only [St.lines, List.mem_cons] at hy
    simp only [St.deep, St.total] at *
    rcases hy with rfl | hy
    · exact ⟨Nat.le_refl _, by simp only []; omega, hf⟩
    · split at hy
      · rw [List.mem_append, List.mem_append] at hy
        rcases hy with hy | hy | hy
        · have := hb y hy; exact ⟨by have := this.1; omega, by have := this.2.1; omega, by have := this.2.2; omega⟩
        · split at hy
          · cases hy
          · rw [List.mem_cons] at hy
            rcases hy with rfl | hy
            · exact ⟨Nat.le_refl _, by simp only []; omega, by simp only [elseT, List.length_cons, List.length_nil]; omega⟩
            · have := hl y hy; exact ⟨by have := this.1; omega, by have := this.2.1; omega, by have := this.2.2; omega⟩
        · rw [List.mem_singleton] at hy
          subst hy
          exact ⟨Nat.le_refl _, by simp only []; omega, by simp only [List.length_cons, List.length_nil]; omega⟩
      · cases hy
theorem Sts.lines_ok : ∀ (l : Sts) (t : Nat), l.fine → ∀ y ∈ l.lines t, LnOk t l.deep l.total y
  | .nil, _, _ => fun _ h => by cases h
  | .cons x r, t, h => by
    have hx := St.lines_ok x t h.1
    have hr := Sts.lines_ok r t h.2
    intro y hy
    simp only [Sts.lines, List.mem_append] at hy
    simp only [Sts.deep, Sts.total]
    rcases hy with hy | hy
    · have := hx y hy; exact ⟨this.1, by have := this.2.1; omega, by have := this.2.2; omega⟩
    · have := hr y hy; exact ⟨this.1, by have := this.2.1; omega, by have := this.2.2; omega⟩
end

end Go.Proofs.YtlhbledakddbbaaGreatDoor
/- How great statements and programs are that are short; where a list stands within another. -/
namespace Go.Proofs.YtlhbledakddbbaaGreatDoor
open Go.RowKit

theorem Exs.nil_of_len {a : Exs} (h : a.len = 0) : a = .nil := by cases a with | nil => rfl | cons => simp [Exs.len] at h
theorem Sts.nil_of_len {a : Sts} (h : a.len = 0) : a = .nil := by cases a with | nil => rfl | cons => simp [Sts.len] at h
mutual
theorem St.At.fine {w : World} {N : Nat} : ∀ (x : St) (b o : Nat), x.At w N b o → x.fine
  | .mk kd nm ns e a g lo hi bd el, b, o, h => by
    obtain ⟨⟨_, _, _, _, h4, h5⟩, _, he, ha, ⟨p2, c2, _, s2⟩, ⟨p3, c3, _, s3⟩, ⟨p4, c4, _, s4⟩⟩ := h
    refine ⟨⟨he.fine e _ _, ha.fine a _ _, ?_, h4, h5⟩, ?_, ?_⟩
    · rcases s2.2 with h0 | ⟨b', o', _, _, hr⟩
      · rw [Exs.nil_of_len h0]; trivial
      · exact hr.fine g _ _
    · rcases s3.2 with h0 | ⟨b', o', _, _, hr⟩
      · rw [Sts.nil_of_len h0]; trivial
      · exact Sts.At.fine bd b' o' hr
    · rcases s4.2 with h0 | ⟨b', o', _, _, hr⟩
      · rw [Sts.nil_of_len h0]; trivial
      · exact Sts.At.fine el b' o' hr
theorem Sts.At.fine {w : World} {N : Nat} : ∀ (l : Sts) (b o : Nat), l.At w N b o → l.fine
  | .nil, _, _, _ => trivial
  | .cons x r, b, o, h => ⟨St.At.fine x b o h.1, Sts.At.fine r b (o + 16) h.2⟩
end
theorem Sts.In.fine {w : World} {N : Nat} {l : Sts} {p : Option Addr} (h : l.In w N p) : l.fine := by
  rcases h.2 with h0 | ⟨b, o, _, _, hr⟩
  · rw [Sts.nil_of_len h0]; trivial
  · exact Sts.At.fine l b o hr
mutual
theorem St.wt_total : ∀ x : St, x.wt ≤ 10 * x.total
  | .mk kd nm ns e a g lo hi bd el => by
    have h1 := e.size_total
    have h2 := a.size_total
    have h3 := g.size_total
    have h4 := Sts.wt_total bd
    have h5 := Sts.wt_total el
    simp only [St.wt, St.total]; omega
theorem Sts.wt_total : ∀ l : Sts, l.wt ≤ 10 * l.total
  | .nil => by simp [Sts.wt]
  | .cons x r => by
    have h1 := St.wt_total x
    have h2 := Sts.wt_total r
    simp only [Sts.wt, Sts.total]; omega
end
/-- from d on L begins with S -/
def Seg {α : Type} (L : List α) (d : Nat) (S : List α) : Prop := ∃ T, L.drop d = S ++ T ∧ d ≤ L.length
theorem Seg.all {α : Type} (L : List α) : Seg L 0 L := ⟨[], by simp, Nat.zero_le _⟩
theorem Seg.len {α : Type} {L S : List α} {d : Nat} (h : Seg L d S) : d + S.length ≤ L.length := by
  obtain ⟨T, h, hd⟩ := h
  have := congrArg List.length h
  simp only [List.length_drop, List.length_append] at this
  omega
theorem Seg.get {α : Type} {L S : List α} {d : Nat} (h : Seg L d S) {j : Nat} {x : α} (hx : S[j]? = some x) : L[d + j]? = some x := by
  obtain ⟨T, h, _⟩ := h
  have hj : j < S.length := (List.getElem?_eq_some_iff.1 hx).1
  rw [← List.getElem?_drop, h, List.getElem?_append_left hj, hx]
theorem Seg.head {α : Type} {L S : List α} {d : Nat} {x : α} (h : Seg L d (x :: S)) : L[d]? = some x := by
  have := h.get (j := 0) (x := x) rfl
  simpa using this
theorem Seg.left {α : Type} {L A B : List α} {d : Nat} (h : Seg L d (A ++ B)) : Seg L d A := by
  obtain ⟨T, h, hd⟩ := h
  exact ⟨B ++ T, by rw [h, List.append_assoc], hd⟩
theorem Seg.right {α : Type} {L A B : List α} {d : Nat} (h : Seg L d (A ++ B)) : Seg L (d + A.length) B := by
  have hl := h.len
  obtain ⟨T, h, hd⟩ := h
  refine ⟨T, ?_, by rw [List.length_append] at hl; omega⟩
  rw [← List.drop_drop, h, List.append_assoc, List.drop_left]
theorem Seg.tail {α : Type} {L S : List α} {d : Nat} {x : α} (h : Seg L d (x :: S)) : Seg L (d + 1) S := Seg.right (A := [x]) h
end Go.Proofs.YtlhbledakddbbaaGreatDoor
/- Unlike expressions have unlike texts, whatever stands behind them. -/
namespace Go.Proofs.YtlhbledakddbbaaGreatDoor
open Go.RowKit

theorem Exs.len_zero {a : Exs} (h : a.len = 0) : a = .nil := by cases a with | nil => rfl | cons => simp [Exs.len] at h
theorem empty_nil {l : List UInt8} (h : l.isEmpty = true) : l = [] := by cases l with | nil => rfl | cons => cases h
end Go.Proofs.YtlhbledakddbbaaGreatDoor
