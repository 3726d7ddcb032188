/- All of any memory, whatever the loop's body does. -/
import Derived.RangeFuncNested
import Derived.RangeFuncBound
import Derived.RangeFuncCalls
import Derived.RangeFuncLeaves
import Derived.Shelf.Abstract
import Derived.Shelf.RegionOpen
import Derived.OwnWalkIn
import Derived.TacticsInMore
import Derived.LoopNIn
import Derived.LoopIn
import Derived.Test.YtajjpaabkdgjbaaF1
namespace Go.Proofs.Ytajjpaabkdgjbaa
open Go.RowKit Go.Shelf
attribute [local go_sem] Oper.semAt_some

/-- an address and its word, as All hands them on -/
def encF (f : Nat → Nat) (js : List Nat) (x : Fin js.length) : Array Value := #[.int .u64 ((8 * js[x] : Nat) : Int), .int .u64 (f js[x] : Nat)]
/-- what lies in a band of blocks -/
structure Band (N M : Nat) (A B : World) : Prop where
  size : A.heap.size ≤ B.heap.size
  block : ∀ k, N ≤ k → k < M → B.heap[k]? = A.heap[k]?
theorem Band.refl (N M : Nat) (A : World) : Band N M A A := ⟨Nat.le_refl _, fun _ _ _ => rfl⟩
theorem Band.trans {N M : Nat} {A B C : World} (h : Band N M A B) (k : Band N M B C) : Band N M A C := ⟨Nat.le_trans h.size k.size, fun i h1 h2 => (k.block i h1 h2).trans (h.block i h1 h2)⟩
theorem Band.cell {N M : Nat} {A B : World} (h : Band N M A B) {b o : Nat} (h1 : N ≤ b) (h2 : b < M) : B.cell? ⟨b, o, none⟩ = A.cell? ⟨b, o, none⟩ := by
  unfold World.cell?; rw [h.block b h1 h2]
theorem Band.of {N M : Nat} {A B : World} (h : Below A.heap.size A B) (hM : M ≤ A.heap.size) : Band N M A B := ⟨h.size, fun k _ h2 => h.block k (Nat.lt_of_lt_of_le h2 hM)⟩
theorem Band.b {N M : Nat} {w : World} (hM : M ≤ w.heap.size) (W : World) (l : Nat) (o o' : Obj) (hl : w.heap.size ≤ l) (_ : W.heap[l]? = some o) (_ : o.isCells = false) (_ : o.isWalk = false) : Band N M W (W.putObj l o') :=
  ⟨by simp, fun k _ h2 => World.putObj_heap_other (by omega)⟩
/-- what a range over All has caught -/
def FoundIs (w : World) (N c : Nat) (f : Nat → Nat) (js : List Nat) : Prop :=
  ∃ q cp, w.cell? ⟨c, 0, none⟩ = some (.slice q js.length cp) ∧ N ≤ c ∧ c < w.heap.size ∧ (js.length = 0 ∨ ∃ gb, q = some ⟨gb, 0, none⟩ ∧ N ≤ gb ∧ gb < w.heap.size ∧
    ∀ i j, js[i]? = some j → w.cell? ⟨gb, i * 2, none⟩ = some (.int .u64 ((8 * j : Nat) : Int)) ∧ w.cell? ⟨gb, i * 2 + 1, none⟩ = some (.int .u64 (f j : Nat)))
theorem prow_get (f : Nat → Nat) : ∀ (js : List Nat) (i j : Nat), js[i]? = some j → (prow f js)[i * 2]? = some (.int .u64 ((8 * j : Nat) : Int)) ∧ (prow f js)[i * 2 + 1]? = some (.int .u64 (f j : Nat))
  | [], _, _, h => by simp at h
  | d :: ds, 0, j, h => by
    simp at h; subst h
    exact ⟨rfl, rfl⟩
  | d :: ds, i + 1, j, h => by
    have := prow_get f ds i j (by simpa using h)
    have e : prow f (d :: ds) = .int .u64 ((8 * d : Nat) : Int) :: .int .u64 (f d : Nat) :: prow f ds := rfl
    rw [e, show (i + 1) * 2 = i * 2 + 1 + 1 by omega]
    simpa using this

set_option maxHeartbeats 1600000 in
theorem all_any (l : List Rg) (f : Nat → Nat) (B g : Nat) (w : World) (h : MemIs w B g l f) :
    Calls Try.prog 27 #[.pointer (some ⟨g, 0, none⟩)] w fun e w' => (∃ c, e = .returned (.func (.func 49) #[] #[.pointer (some ⟨c, 0, none⟩)]) ∧ FoundIs w' w.heap.size c f (nz f 8192)) ∧ Below w.heap.size w w' := by
  have HP := Lib.hid h
  clear h
  go_enter Try.func27, Try.ntmps27
  go_wp2_with fail
  refine (filled_any l f B g w HP.out).mono ?_
  rintro e w1 ⟨⟨v, rfl, hO⟩, hB⟩
  obtain ⟨q, cp, rfl, _, _, hq1, hq2⟩ := own_cap hO
  have HB := Lib.hid hB
  have HQ := Lib.hid (And.intro hq1 hq2)
  clear hB hO hq1 hq2
  go_wp2_with fail
  go_ret
  have hb := (Below.refl w1.heap.size w1).alloc (Nat.le_refl _) (.cells #[.slice q (nz f 8192).length cp] 90 (0, 0))
  refine ⟨⟨_, rfl, q, cp, by simp [go_sem], HB.out.size, by simp, ?_⟩, (HB.out.alloc HB.out.size _)⟩
  cases q with
  | none => exact .inl (HQ.out.1 rfl).1
  | some ad =>
    obtain ⟨g', rfl, hb', hlt, _, hc⟩ := HQ.out.2 ad rfl
    refine .inr ⟨g', rfl, hb', by simp; omega, fun i j hj => ?_⟩
    obtain ⟨p1, p2⟩ := prow_get f _ i j hj
    exact ⟨(hb.cell (p := ⟨g', i * 2, none⟩) hlt).trans (hc _ _ p1), (hb.cell (p := ⟨g', i * 2 + 1, none⟩) hlt).trans (hc _ _ p2)⟩

set_option maxRecDepth 100000 in
set_option maxHeartbeats 3200000 in
theorem all1_any (F : Fence) (n : Nat) (h63 : F.fn 49) (hro : F.round = none) (hn : 1 ≤ n) (N c : Nat) (f : Nat → Nat) (js : List Nat) (w : World) (hF : FoundIs w N c f js) (hjm : js.length ≤ 8192) :
    SeqStopsK F n Try.prog 49 #[.pointer (some ⟨c, 0, none⟩)] (encF f js) (Band N w.heap.size) (fun xs => xs = List.finRange js.length) (fun _ => True) js.length w := fun l J Jx W hW hJ _ hY h0 => by
  have HY := Lib.hid hY
  have HJ := Lib.hid hJ
  have HJ0 := Lib.hid h0
  have HWb := Lib.hid hW
  obtain ⟨q, cp, hc, hNc, hcz, hrow⟩ := hF
  have hcc := (hW.cell (p := ⟨c, 0, none⟩) hcz).trans hc
  have HR := Lib.hid hrow
  clear hc hrow hY hJ h0 hW
  refine callsIn_of_wp Try.func49 rfl h63 ?_ hro
  simp only [Try.ntmps49, List.size_toArray, List.length_cons, List.length_nil, Nat.reduceAdd, Nat.reduceSub, Array.replicate_succ, Array.replicate_zero, List.push_toArray, List.append_toArray, List.nil_append, List.cons_append]
  gi_wp2
  gi_loopw [7] (fun i wr => ∃ k : Nat, i = .int .i64 k ∧ k ≤ js.length ∧ Hid (J ((List.finRange js.length).take k) wr) ∧ Hid (Band N w.heap.size W wr)) (fun i _ => js.length - (intOf i).toNat)
  case atStart => exact ⟨0, rfl, Nat.zero_le _, Lib.hid (by simpa using HJ0.out), Lib.hid (Band.refl _ _ _)⟩
  case round =>
    obtain ⟨k, rfl, hk, hJk, hB⟩ := hrel
    by_cases hlt : k < js.length
    · obtain ⟨gb, rfl, hgN, hgz, hcells⟩ : ∃ gb, q = some ⟨gb, 0, none⟩ ∧ N ≤ gb ∧ gb < w.heap.size ∧ ∀ i j, js[i]? = some j → w.cell? ⟨gb, i * 2, none⟩ = some (.int .u64 ((8 * j : Nat) : Int)) ∧ w.cell? ⟨gb, i * 2 + 1, none⟩ = some (.int .u64 (f j : Nat)) := by
        rcases HR.out with h | h
        · omega
        · exact h
      obtain ⟨j, hj⟩ : ∃ j, js[k] = j := ⟨_, rfl⟩
      have hjk : js[k]? = some j := by rw [List.getElem?_eq_getElem hlt, hj]
      obtain ⟨c0, c1⟩ := hcells k j hjk
      have d0 := (hB.out.cell (o := k * 2) hgN hgz).trans ((HWb.out.cell (p := ⟨gb, k * 2, none⟩) hgz).trans c0)
      have d1 := (hB.out.cell (o := k * 2 + 1) hgN hgz).trans ((HWb.out.cell (p := ⟨gb, k * 2 + 1, none⟩) hgz).trans c1)
      have i0 : (0 : Int) ≤ (k : Int) := by omega
      have i1 : (k : Int) < (js.length : Int) := by omega
      clear hcells c0 c1
      gi_wp2
      have he : encF f js ⟨k, hlt⟩ = #[.int .u64 (8 * (j : Int)), .int .u64 (f j : Nat)] := by
        have hk2 : js[(⟨k, hlt⟩ : Fin js.length)] = j := hj
        unfold encF; rw [hk2]; simp
      have hJ2 : J ((List.finRange js.length).take k) (wr.alloc (.cells #[.int .u64 (8 * (j : Int)), .int .u64 (f j : Nat)] 94 (0, 0))) := HJ.out _ wr _ none hJk.out (World.grownBy_alloc _ _ _) (fun r e => by cases e)
      have hyy := HY.out _ ⟨k, hlt⟩ _ hJ2 (by simp; omega)
      rw [he] at hyy
      have hE : (List.finRange js.length).take (k + 1) = (List.finRange js.length).take k ++ [⟨k, hlt⟩] := by
        rw [List.take_add_one, List.getElem?_eq_getElem (by simpa using hlt)]
        simp
      rw [← hE] at hyy
      have hb2 : Band N w.heap.size wr (wr.alloc (.cells #[.int .u64 (8 * (j : Int)), .int .u64 (f j : Nat)] 94 (0, 0))) := Band.of ((Below.refl _ _).alloc (Nat.le_refl _) _) (Nat.le_trans HWb.out.size hB.out.size)
      have HB2 := Lib.hid (hB.out.trans hb2)
      clear hb2 hJ2 hE he
      obtain ⟨fn, tmps, assign, body, hy, hR⟩ := hyy
      rw [hy]
      gi_wp2
      refine hR.mono ?_
      rintro e W3 (⟨rfl, hJ3, hk3⟩ | ⟨rfl, hJx3⟩)
      · have HJ3 := Lib.hid hJ3
        have HB3 := Lib.hid (HB2.out.trans hk3)
        clear hJ3 hk3 hR hy d0 d1
        gi_wp2
        go_roundw
        case rel => exact ⟨k + 1, by go_num, by omega, HJ3, HB3⟩
        case measure => simp [intOf]; omega
      · have HX3 := Lib.hid hJx3
        clear hJx3 hR hy d0 d1
        gi_wp2
        refine bodyPost_ret (results_none rfl _ _ _) rfl ?_
        exact ⟨⟨_, rfl⟩, .inr ⟨_, trivial, HX3.out⟩⟩
    · obtain rfl : k = js.length := by omega
      gi_wp2
      go_end0
      exact ⟨⟨_, rfl⟩, .inl ⟨_, rfl, by have := hJk.out; rwa [List.take_of_length_le (by simp)] at this⟩⟩
end Go.Proofs.Ytajjpaabkdgjbaa
