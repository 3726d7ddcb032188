/- Copy. -/
import Derived.Test.YtajjpaabkdgjbaaD9
import Derived.Deep.MidRow
namespace Go.Proofs.Ytajjpaabkdgjbaa
open Go.RowKit

theorem MemIs.congr {w : World} {B g : Nat} {l : List Rg} {f f' : Nat → Nat} (h : MemIs w B g l f) (he : ∀ j, j < 8192 → f j = f' j) (hl : ∀ j, f' j < 18446744073709551616) : MemIs w B g l f' := by
  obtain ⟨p, c, q, h1, h2, h3, h4, h5, h6, h7, h8, h9, h10, h11, h12, h13⟩ := h
  exact ⟨p, c, q, h1, h2, h3, h4, h5, h6, h7, h8, h9, h10, h11, fun j hj => by rw [← he j hj]; exact h12 j hj, hl⟩
/-- the first n values of a function, as a list -/
theorem words_ex (f : Nat → Nat) (n : Nat) (hf : ∀ j, f j < 18446744073709551616) : ∃ xs : List Nat, xs.length = n ∧ (∀ j, j < n → xs[j]? = some (f j)) ∧ ∀ x ∈ xs, x < 18446744073709551616 := by
  refine ⟨(List.range n).map f, by rw [List.length_map, List.length_range], fun j hj => by rw [List.getElem?_map, List.getElem?_range hj]; rfl, fun x hx => ?_⟩
  obtain ⟨j, _, rfl⟩ := List.mem_map.1 hx
  exact hf j
theorem u64s_get (xs : List Nat) (j : Nat) (v : Value) (h : (u64s xs)[j]? = some v) : ∃ x, xs[j]? = some x ∧ v = .int .u64 (x : Nat) := by
  simp only [u64s, List.getElem?_map, Option.map_eq_some_iff] at h
  obtain ⟨x, h1, h2⟩ := h
  exact ⟨x, h1, h2.symm⟩
theorem info_arr : (Try.prog.info? 81).map (·.size) = some 8192 := by kernel_rfl
theorem copy_load {W : World} {B g : Nat} {l : List Rg} {f : Nat → Nat} (h : MemIs W B g l f) (xs : List Nat) (hl : xs.length = 8192) (hx : ∀ j, j < 8192 → xs[j]? = some (f j)) :
    (Instr.loadAt 81 (.pointer (some ⟨g, 2, none⟩))).run Try.prog W = .ok (.agg (u64s xs).toArray) W := by
  have hlu : (u64s xs).length = 8192 := by rw [u64s, List.length_map, hl]
  refine run_loadAt_mid W g 2 81 (u64s xs) _ (fun j v hv => ?_) Try.underlying81 rfl (by rw [hlu]; exact info_arr)
  obtain ⟨x, h1, rfl⟩ := u64s_get xs j v hv
  have hj : j < 8192 := by rw [← hl]; exact (List.getElem?_eq_some_iff.1 h1).1
  rw [hx j hj] at h1
  cases h1
  exact (h.cell j hj).1
theorem copy_store {W : World} {B g : Nat} {l : List Rg} {f : Nat → Nat} (h : MemIs W B g l f) (xs : List Nat) (hl : xs.length = 8192) :
    (Instr.storeAt 81 (.pointer (some ⟨g, 2, none⟩)) (.agg (u64s xs).toArray)).run Try.prog W = .ok () (W.setCells g 2 (u64s xs)) := by
  have hlu : (u64s xs).length = 8192 := by rw [u64s, List.length_map, hl]
  have hr := run_storeAt_mid (P := Try.prog) W g 2 81 (u64s xs).toArray (fun j hj => by
      have hj' : j < 8192 := by rw [List.size_toArray, hlu] at hj; exact hj
      rw [(h.cell j hj').1]
      exact ⟨rfl, (h.cell j hj').2⟩)
    (by rw [List.size_toArray, hlu]; exact info_arr)
    (by
      rw [Array.all_eq_true_iff_forall_mem]
      intro v hv
      rw [List.mem_toArray, u64s, List.mem_map] at hv
      obtain ⟨x, _, rfl⟩ := hv
      rfl)
  exact hr
theorem copy_is {W : World} {B g : Nat} {l : List Rg} {f : Nat → Nat} (h : MemIs W B g l (fun _ => 0)) (hf : ∀ j, f j < 18446744073709551616) (xs : List Nat) (hl : xs.length = 8192) (hx : ∀ j, j < 8192 → xs[j]? = some (f j)) (hm : ∀ x ∈ xs, x < 18446744073709551616) :
    MemIs (W.setCells g 2 (u64s xs)) B g l f := by
  refine (MemIs.setCells xs 0 h (by omega) hm).congr (fun j hj => ?_) hf
  rw [fillA_at, if_pos (by omega), List.getD_eq_getElem?_getD, Nat.sub_zero, hx j hj]; rfl

theorem step_load {W : World} {g : Nat} {A : Array Value} (hr : (Instr.loadAt 81 (.pointer (some ⟨g, 2, none⟩))).run Try.prog W = .ok (.agg A) W)
    {op : Oper} {a : Act} {K : Act → World → Prop} {Q : Exit → Act → World → Prop} (x : Operand) (ho : op.op = .load 81 x) (hx : a.eval x = .pointer (some ⟨g, 2, none⟩)) (h : K (a.put op.dst (.agg A)) W) : op.wp Try.prog a W K Q := by
  unfold Oper.wp execOp
  simp only [ho, hx, Sem.run_bind, Sem.run_pure, Result.andThen_ok, hr]
  exact h
theorem step_store {W W' : World} {g : Nat} {A : Array Value} (hr : (Instr.storeAt 81 (.pointer (some ⟨g, 2, none⟩)) (.agg A)).run Try.prog W = .ok () W')
    {op : Oper} {a : Act} {K : Act → World → Prop} {Q : Exit → Act → World → Prop} (x y : Operand) (ho : op.op = .store 81 x y) (hx : a.eval x = .pointer (some ⟨g, 2, none⟩)) (hy : a.eval y = .agg A) (h : K (a.put op.dst undef) W') : op.wp Try.prog a W K Q := by
  unfold Oper.wp execOp
  simp only [ho, hx, hy, Sem.run_bind, Sem.run_pure, Result.andThen_ok, hr]
  exact h

set_option maxRecDepth 100000 in
set_option maxHeartbeats 400000 in
theorem copy_any (l : List Rg) (f : Nat → Nat) (B g : Nat) (w : World) (h : MemIs w B g l f) (hl : l.length ≤ 16) :
    Calls Try.prog 60 #[.pointer (some ⟨g, 0, none⟩)] w fun e w' => (∃ g2, e = .returned (.pointer (some ⟨g2, 0, none⟩)) ∧ MemIs w' w.heap.size g2 l f) ∧ Below w.heap.size w w' := by
  have HI := Lib.hid h.isn
  have HM := Lib.hid h
  obtain ⟨p, c, q, h1, h2, h3, h4, h5, h6, h7, h8, h9, h10, h11, h12, h13⟩ := h
  have HD := Lib.hid (made_all l p c g w h4 (Nat.le_of_lt h7) (by omega) h10)
  obtain ⟨xs, hx1, hx2, hx3⟩ := words_ex f 8192 h13
  have HXS := Lib.hid (And.intro hx1 (And.intro hx2 hx3))
  clear h4 h2 h3 h10 h11 h12 hx1 hx2 hx3
  go_enter Try.func60, Try.ntmps60
  go_wp2_with (first | (go_at_call 43; (with_reducible refine HI.out.mono ?_); rintro e w' ⟨rfl, rfl⟩))
  refine HD.out.mono ?_
  rintro e w1 ⟨⟨g2, rfl, hI⟩, hB⟩
  have hload := copy_load (HM.out.later hB) xs HXS.out.1 HXS.out.2.1
  have hstore := copy_store hI xs HXS.out.1
  have HI2 := Lib.hid hI
  have HB := Lib.hid hB
  clear hI hB
  have HLD := Lib.hid hload
  have HST := Lib.hid hstore
  clear hload hstore
  generalize (u64s xs).toArray = A at HLD HST
  obtain ⟨W2, hW2⟩ : ∃ W2, w1.setCells g2 2 (u64s xs) = W2 := ⟨_, rfl⟩
  rw [hW2] at HST
  have HW2 := Lib.hid hW2
  clear hW2
  dsimp only
  rename_i Q0 K1 h1 K2 h2
  refine h2 _ _ ?_
  iterate 14 (first | go_skip | go_guarded | go_step | go_upon)
  iterate 6 (first | go_skip | go_guarded | go_step | go_upon)
  refine wpList_plain rfl fun K3 hK3 => ?_
  refine step_load HLD.out (.tmp 14) rfl ?_ ?_
  · rfl
  refine hK3 _ _ ?_
  clear hK3 K3
  simp only [Act.put, List.setIfInBounds_toArray, List.set_cons_zero, List.set_cons_succ]
  iterate 6 (first | go_skip | go_guarded | go_step | go_upon)
  refine wpList_plain rfl fun K3 hK3 => ?_
  refine step_store HST.out (.tmp 17) (.tmp 15) rfl ?_ ?_ ?_
  · rfl
  · rfl
  refine hK3 _ _ ?_
  clear hK3 K3
  simp only [Act.put]
  have HM2 := Lib.hid (by have := copy_is HI2.out h13 xs HXS.out.1 HXS.out.2.1 HXS.out.2.2; rw [HW2.out] at this; exact this)
  have HB2 := Lib.hid (show Below w.heap.size w W2 by
    rw [← HW2.out]
    have hg2 : w.heap.size ≤ g2 := by obtain ⟨_, _, _, _, _, _, _, e5, e6, _, _⟩ := HI2.out; omega
    exact Agr.below HB.out (Agr.setCells _ _ _) hg2 HB.out.size)
  clear HLD HST
  go_wp2_with fail
  go_ret
  exact ⟨⟨g2, rfl, HM2.out⟩, HB2.out⟩
end Go.Proofs.Ytajjpaabkdgjbaa
