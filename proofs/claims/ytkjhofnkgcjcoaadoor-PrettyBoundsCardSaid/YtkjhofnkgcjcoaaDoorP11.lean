/- The document's names. -/
import Derived.Test.YtkjhofnkgcjcoaaDoorP04
import Derived.Test.YtkjhofnkgcjcoaaDoorP09
import Derived.Test.YtkjhofnkgcjcoaaDoorP06
import Derived.Test.YtkjhofnkgcjcoaaDoorP07
import Derived.Lib.ItoaMem
import Derived.Lib.ItoaWalk
import Derived.Lib.Walk
import Derived.BigCall
import Derived.BigGuard
import Derived.Lib.Slices
namespace Go.Proofs.YtkjhofnkgcjcoaaDoor
open Go.RowKit

def noneOf (l : List UInt8) (k : Nat) : Prop := ∀ x ∈ ownWords.take k, (x == l) = false
theorem noneOf.step {l : List UInt8} {k : Nat} (h : noneOf l k) (x : List UInt8) (hx : ownWords[k]? = some x) (he : (x == l) = false) : noneOf l (k + 1) := by
  intro y hy
  rw [List.take_add_one, hx] at hy
  rcases List.mem_append.1 hy with h1 | h1
  · exact h y h1
  · simp at h1; subst h1; exact he
theorem noneOf.no {l : List UInt8} (h : noneOf l 11) : ownB l = false := by
  refine decide_eq_false fun hm => ?_
  have := h l hm
  simp at this
theorem own_yes {l : List UInt8} {x : List UInt8} (k : Nat) (hx : ownWords[k]? = some x) (he : (x == l) = true) : ownB l = true := by
  refine decide_eq_true ?_
  rw [← beq_iff_eq.1 he]
  exact List.mem_of_getElem? hx
end Go.Proofs.YtkjhofnkgcjcoaaDoor
/- Which expressions may be: the document's mayExpr, MayExpr. -/
namespace Go.Proofs.YtkjhofnkgcjcoaaDoor
open Go.RowKit

def argsR (op : Int) : Int := if op = 4 ∨ op = 5 then 1 else if 6 ≤ op ∧ op ≤ 20 then 2 else if op = 21 then 3 else -1
theorem argsR_of {op : Int} (h : 4 ≤ op) (h2 : op ≤ 21) : argsR op = (argsN op : Int) := by
  unfold argsR argsN
  repeat' split
  all_goals omega
theorem argsR_no {op : Int} (h : op < 4 ∨ 21 < op) : argsR op = -1 := by unfold argsR; rw [if_neg (by omega), if_neg (by omega), if_neg (by omega)]
theorem Exs.may_nil {a : Exs} (h : a.len = 0) : a.may = true := by cases a with | nil => rfl | cons => simp [Exs.len] at h
end Go.Proofs.YtkjhofnkgcjcoaaDoor
/- FormatUint, at base 10. -/
namespace Go.Proofs.YtkjhofnkgcjcoaaDoor
open Go.RowKit Go.Sort Go.Lib

set_option maxHeartbeats 12800000 in
set_option maxRecDepth 100000 in
theorem innerFormatUint_any (u : Nat) (hu64 : u < 18446744073709551616) (w : World) (hG : Glob w) :
    Calls Tryd.prog 93 #[.int .u64 u, .int .i64 10] w fun e w' => e = .returned (.string (str (Lib.decDigits u))) ∧ Below w.heap.size w w' := by
  have htab := hG.here
  by_cases hu : u < 100
  · go_enter Tryd.func93, Tryd.ntmps93
    go_wp2_with (go_at_call 88; refine (Tryd.internal_strconv_small u hu _).mono ?_; rintro e w' ⟨rfl, rfl⟩)
    go_ret
    exact ⟨rfl, Below.refl _ _⟩
  · have hu1 : 1 ≤ u := by omega
    have hnd20 : Lib.nDigits u ≤ 20 := by have := Lib.numDigits_eq u hu1 hu64; split at this <;> omega
    have hal : Tryd.prog.arrayLen 140 = 24 := by simp [Program.arrayLen, Tryd.underlying140]
    have hsl : ∀ W, (Instr.sliceAt 140 (.pointer (some ⟨w.heap.size, 0, none⟩)) none (some (.int .i64 (Lib.nDigits u : Int))) none).run Tryd.prog W = .ok (.slice (some ⟨w.heap.size, 0, none⟩) (Lib.nDigits u) 24) W := fun W => by
      rw [run_sliceAt_array_h W 140 ⟨w.heap.size, 0, none⟩ (by simp [Program.arrayLen, Program.elem, Tryd.underlying140]) .i64 (Lib.nDigits u : Int) (by omega) (by rw [hal]; omega)]
      go_simp
    have hH0 := Lib.holds_zero0 w 140 (Lib.nDigits u) (by omega)
    have hfmt := Tryd.internal_strconv_formatBase10 w.heap.size 0 24 u (Array.replicate (Lib.nDigits u) 0) (w.alloc (.cells Lib.zeros24 140)) hH0 (by rw [Array.size_replicate]; exact Lib.lt_pow_nDigits u) hu64 (by rw [Array.size_replicate]; omega)
    rw [Array.size_replicate] at hfmt
    have HH0 := Lib.hid hH0
    have iu : (100 : Int) ≤ (u : Int) := by omega
    clear hH0 hal
    go_enter Tryd.func93, Tryd.ntmps93
    go_wp2_with (first
      | (go_at_call 89; refine (Tryd.internal_strconv_numDigits u hu1 hu64 _ (Lib.tabIs_alloc htab _)).mono ?_; rintro e w' ⟨rfl, rfl⟩))
    refine hfmt.mono ?_
    rintro e w' ⟨rfl, k, v', dk, rfl, hF⟩
    have hcv : (convert 64 9 (.slice (some ⟨w.heap.size, 0, none⟩) (Lib.nDigits u) 24)).run Tryd.prog ((putRow (fun (b : UInt8) => Value.int .u8 (b.toNat : Int)) (w.alloc (.cells Lib.zeros24 140)) w.heap.size 0 dk).drewN k) = .ok (.string (str (Lib.decDigits u))) ((putRow (fun (b : UInt8) => Value.int .u8 (b.toNat : Int)) (w.alloc (.cells Lib.zeros24 140)) w.heap.size 0 dk).drewN k) := by
      have h := run_convert_bytes_back (P := Tryd.prog) ((putRow (fun (b : UInt8) => Value.int .u8 (b.toNat : Int)) (w.alloc (.cells Lib.zeros24 140)) w.heap.size 0 dk).drewN k) 64 9 5 ⟨w.heap.size, 0, none⟩ 24 (Lib.decDigits u) Tryd.underlying64 Tryd.underlying5 Tryd.underlying9 (fun j hj => by
        rw [Lib.row_is_numeral hF j hj, Lib.add_plain, World.cell?_drewN]
        exact cell?_putRow (fun (b : UInt8) => Value.int .u8 (b.toNat : Int)) _ w.heap.size 0 _ dk HH0.out (by rw [hF.size, Array.size_replicate]) j (by rw [hF.size]; rw [Lib.decDigits_length] at hj; exact hj))
      rw [Lib.decDigits_length] at h
      exact h
    obtain ⟨os, eo⟩ := Lib.fin_at w (.cells Lib.zeros24 140) dk k 0
    have hnx2 : Below w.heap.size w ((putRow (fun (b : UInt8) => Value.int .u8 (b.toNat : Int)) (w.alloc (.cells Lib.zeros24 140)) w.heap.size 0 dk).drewN k) := by rw [eo]; exact Lib.below_grow w.heap.size w (Nat.le_refl _) k os
    have HB := Lib.hid hnx2
    generalize (putRow (fun (b : UInt8) => Value.int .u8 (b.toNat : Int)) (w.alloc (.cells Lib.zeros24 140)) w.heap.size 0 dk).drewN k = W2 at hcv HB ⊢
    clear eo HH0 hfmt hF hnx2
    go_wp2_with fail
    go_ret
    exact ⟨rfl, HB.out⟩
theorem formatUint_any (u : Nat) (hu64 : u < 18446744073709551616) (w : World) (hG : Glob w) :
    Calls Tryd.prog 86 #[.int .u64 u, .int .i64 10] w fun e w' => e = .returned (.string (str (Lib.decDigits u))) ∧ Below w.heap.size w w' := by
  have HC := Lib.hid (innerFormatUint_any u hu64 w hG)
  go_enter Tryd.func86, Tryd.ntmps86
  go_wp2_with fail
  refine HC.out.mono ?_
  rintro e w' ⟨rfl, hB⟩
  go_wp2_with fail
  go_ret
  exact ⟨rfl, hB⟩
end Go.Proofs.YtkjhofnkgcjcoaaDoor
/- The document's Sign. -/
namespace Go.Proofs.YtkjhofnkgcjcoaaDoor
open Go.RowKit

def hasSign (o : Int) : Bool := (fat signT o).isSome
def signL : Array Value := #[.string ⟨#[43]⟩, .string ⟨#[45]⟩, .string ⟨#[42]⟩, .string ⟨#[38]⟩, .string ⟨#[124]⟩, .string ⟨#[94]⟩, .string ⟨#[60, 60]⟩, .string ⟨#[62, 62]⟩, .string ⟨#[62, 62, 62]⟩, .string ⟨#[60, 60, 60]⟩, .string ⟨#[62, 62, 62, 62]⟩, .string ⟨#[61, 61]⟩, .string ⟨#[33, 61]⟩, .string ⟨#[60]⟩, .string ⟨#[60, 61]⟩]
theorem fifteen {o : Int} (h1 : 6 ≤ o) (h2 : o ≤ 20) : o = 6 ∨ o = 7 ∨ o = 8 ∨ o = 9 ∨ o = 10 ∨ o = 11 ∨ o = 12 ∨ o = 13 ∨ o = 14 ∨ o = 15 ∨ o = 16 ∨ o = 17 ∨ o = 18 ∨ o = 19 ∨ o = 20 := by omega
theorem sign_cell {o : Int} (h1 : 6 ≤ o) (h2 : o ≤ 20) : signL[(o - 6).toNat]? = some (.string (str (signOf o))) := by
  rcases fifteen h1 h2 with rfl | rfl | rfl | rfl | rfl | rfl | rfl | rfl | rfl | rfl | rfl | rfl | rfl | rfl | rfl <;> rfl
theorem has_sign {o : Int} (h1 : 6 ≤ o) (h2 : o ≤ 20) : hasSign o = true ∧ signOf o ≠ [] := by
  rcases fifteen h1 h2 with rfl | rfl | rfl | rfl | rfl | rfl | rfl | rfl | rfl | rfl | rfl | rfl | rfl | rfl | rfl <;> decide
theorem fat_none {o : Int} (h : o < 6 ∨ 20 < o) : fat signT o = none := by
  have hn : ∀ (l : List (Int × List UInt8)), (∀ x ∈ l, x.1 ≠ o) → fat l o = none := fun l => by
    induction l with
    | nil => intro _; rfl
    | cons x l ih =>
      intro h
      have h1 := h x (List.mem_cons_self ..)
      have h2 := ih fun y hy => h y (List.mem_cons_of_mem _ hy)
      simp [fat, h2, Ne.symm h1]
  refine hn _ ?_
  intro x hx
  have hx' : x.1 ∈ signT.map (·.1) := List.mem_map.2 ⟨x, hx, rfl⟩
  have : signT.map (·.1) = [6, 7, 8, 9, 10, 11, 12, 13, 14, 15, 16, 17, 18, 19, 20] := rfl
  rw [this] at hx'
  simp at hx'
  omega
theorem no_sign {o : Int} (h : o < 6 ∨ 20 < o) : hasSign o = false ∧ signOf o = [] := by
  unfold hasSign signOf
  rw [fat_none h]
  exact ⟨rfl, rfl⟩

end Go.Proofs.YtkjhofnkgcjcoaaDoor
