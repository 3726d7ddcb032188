/- Size; what is done with a panic. -/
import Derived.Test.YtldjcnpkgbdlpaaE5
import Derived.Recover
namespace Go.Proofs.Ytldjcnpkgbdlpaa
open Go.RowKit

def sumSc : List Fnc → Nat
  | [] => 0
  | f :: r => f.body.sc 1 + sumSc r
/-- how many statements and expressions there are -/
def Prg.total (x : Prg) : Nat := sumSc x.fns
/-- a program in a cell of its own -/
structure PB (w : World) (N : Nat) (x : Prg) (pb : Nat) (p q : Option Addr) (c d : Nat) : Prop where
  cs : w.heap[pb]? = some (.cells #[.slice p x.regs.length c, .slice q x.fns.length d] 25 (0, 0))
  ok : x.Ok w N p q
theorem PB.but {w w' : World} {N : Nat} {x : Prg} {pb g : Nat} {p q : Option Addr} {c d : Nat} (h : PB w N x pb p q c d) (hB : But g w w') (hg : N ≤ g) (hN : N ≤ w.heap.size) (hp : pb ≠ g) : PB w' N x pb p q c d :=
  ⟨(hB.block _ (lt_blk h.cs) hp).trans h.cs, h.ok.later (hB.old hg hN) (Nat.le_refl N)⟩
theorem Fnc.At.bodyC {w : World} {N b o : Nat} {x : Fnc} (h : x.At w N b o) : ∃ p c, w.cell? ⟨b, o + 4, none⟩ = some (.slice p x.body.len c) ∧ x.body.In w N p := by
  obtain ⟨_, _, _, _, ⟨p, c, h1, h2⟩⟩ := h
  exact ⟨p, c, h1, h2⟩
theorem Row.start {α : Type} {N k : Nat} {A : α → Nat → Nat → Prop} {l : List α} {p : Option Addr} (h : RowIn N A k l p) : ∃ b o, (l.length = 0 ∨ p = some ⟨b, o, none⟩) ∧ (b < N ∨ l.length = 0) ∧ Row A k l b o := by
  rcases h.2 with h0 | ⟨b, o, hp, hb, ha⟩
  · exact ⟨0, 0, .inl h0, .inr h0, by cases l with | nil => trivial | cons => simp at h0⟩
  · exact ⟨b, o, .inr hp, .inl hb, ha⟩
theorem one_alloc (w : World) (o : Obj) : ∃ W, w.alloc o = W ∧ W.heap[w.heap.size]? = some o ∧ Below w.heap.size w W ∧ W.heap.size = w.heap.size + 1 :=
  ⟨_, rfl, heap_alloc_new w o, (Below.refl _ w).alloc (Nat.le_refl _) _, by simp⟩
set_option maxHeartbeats 3200000 in
theorem size1_any (x : Prg) (p q : Option Addr) (c d N pb g : Nat) (w : World) (hP : PB w N x pb p q c d) (hN : N ≤ w.heap.size) (hg : N ≤ g) (hC : Ct w g 0) (hpg : pb ≠ g) :
    Calls Try.prog 60 #[.pointer (some ⟨g, 0, none⟩), .pointer (some ⟨pb, 0, none⟩)] w (Cnt g 0 x.total w) := by
  obtain ⟨W0, hW0, k0, hB0, hz0⟩ := one_alloc w (.cells #[ctFn g] 1)
  have hgw : g < w.heap.size := lt_blk hC
  have HCb := Lib.hid (show Cb W0 g w.heap.size from ⟨k0, by omega⟩)
  have HB0 := Lib.hid (But.of_below (g := g) hB0)
  have HP := Lib.hid (hP.but HB0.out hg hN hpg)
  have HC := Lib.hid (hC.later hB0)
  have HN0 := Lib.hid (show N ≤ W0.heap.size by omega)
  have HW0 := Lib.hid hW0
  obtain ⟨hm, b, o, hq, hb, ha⟩ : x.fns.length ≤ 140737488355328 ∧ ∃ b o, (x.fns.length = 0 ∨ q = some ⟨b, o, none⟩) ∧ (b < N ∨ x.fns.length = 0) ∧ Row (Fnc.At W0 N) 5 x.fns b o := ⟨HP.out.ok.2.1, Row.start HP.out.ok.2⟩
  have Hb := Lib.hid hb
  have s1 : W0.cell? ⟨pb, 1, none⟩ = some (.slice q x.fns.length d) := cell_blk HP.out.cs (j := 1) rfl
  unfold ctFn at HW0
  unfold Prg.total
  clear hW0 k0 hB0 hz0 hP hC hb
  go_enter Try.func60, Try.ntmps60
  rw [← HW0.out] at s1
  go_wp2_with fail
  rw [HW0.out]
  clear HW0 s1
  go_loopw [8] (fun i wr => ∃ (k v : Nat) (r : List Fnc), i = .int .i64 k ∧ k + r.length = x.fns.length ∧ v ≤ 65536 ∧ Hid (Row (Fnc.At W0 N) 5 r b (o + k * 5)) ∧ Hid (Ct wr g v ∧ But g W0 wr) ∧ Hid (v + sumSc r = sumSc x.fns)) (fun i _ => x.fns.length - (intOf i).toNat)
  case atStart => exact ⟨0, 0, x.fns, rfl, by omega, by omega, Lib.hid (by rw [Nat.zero_mul]; exact ha), Lib.hid ⟨HC.out, But.refl _ _⟩, Lib.hid (by omega)⟩
  case round =>
    obtain ⟨k, v, r, rfl, hk, hv, hr, hCB, hE⟩ := hrel
    have s1r : wr.cell? ⟨pb, 1, none⟩ = some (.slice _ x.fns.length d) := cell_blk (HP.out.but hCB.out.2 hg HN0.out hpg).cs (j := 1) rfl
    cases r with
    | nil =>
      simp only [List.length_nil] at hk
      have hge : ¬ k < x.fns.length := by omega
      have hR := Lib.hid (show Cnt g 0 (sumSc x.fns) w (.returned (.tuple #[])) wr by
        have h := hE.out
        rw [sumSc, Nat.add_zero] at h
        subst h
        exact .ok (by omega) (by rw [Nat.zero_add]; exact hCB.out.1) (HB0.out.trans hCB.out.2))
      go_wp2_with fail
      go_end0
      exact hR.out
    | cons y r =>
      obtain ⟨hy, hr'⟩ := hr.out
      simp only [List.length_cons] at hk
      have hlt : k < x.fns.length := by omega
      rcases hq with h0 | rfl
      · omega
      have HEy := Lib.hid hE.out
      have HR := Lib.hid hr'
      obtain ⟨q4, c4, d4, hok4⟩ := Fnc.At.bodyC (Fnc.At.later (hCB.out.2.old hg HN0.out) (Nat.le_refl N) y b (o + k * 5) (by have := Hb.out; omega) hy)
      have hCl := Lib.hid (each_to _ y.body (Nat.lt_succ_self _) 1 (by omega) q4 c4 N wr v g w.heap.size hok4 (Nat.le_trans HN0.out hCB.out.2.size) hg (HCb.out.but hCB.out.2) hCB.out.1 hv)
      unfold seeFn at hCl
      rw [show ((1 : Nat) : Int) = 1 from rfl] at hCl
      clear hy hr' hr hE hok4
      go_wp2_with fail
      refine hCl.out.mono ?_
      intro z w3 hc
      rcases hc with ⟨h1, h2, h3⟩ | ⟨h1, h2, h3⟩
      rotate_left
      · have hR := Lib.hid (show Cnt g 0 (sumSc x.fns) w (Pn 13) w3 from .no (by have := HEy.out; rw [sumSc] at this; omega) h2 (HB0.out.trans (hCB.out.2.trans h3)))
        unfold Pn at hR ⊢
        clear h1 h2 h3
        go_wp2_with fail
        exact ⟨rfl, hR.out⟩
      have hCB2 := Lib.hid (And.intro h2 (hCB.out.2.trans h3))
      clear h2 h3
      go_wp2_with fail
      go_roundw
      case rel => exact ⟨k + 1, _, r, by go_num, by omega, h1, Lib.hid (by rw [show o + (k + 1) * 5 = o + k * 5 + 5 by omega]; exact HR.out), hCB2, Lib.hid (by have := HEy.out; rw [sumSc] at this; omega)⟩
      case measure => simp [intOf]; omega

theorem not_nilE (v : Value) (W : World) : (binOp .eql 20 (.iface 39 v) .nilIface).run Try.prog W = .ok (.bool false) W := by kernel_rfl
theorem is_errno (r : Int) (W : World) : (Instr.typeAssert (.iface 39 (.int .i64 r)) 20 39 true).run Try.prog W = .ok (.tuple #[.int .i64 r, .bool true]) W := by kernel_rfl
set_option maxHeartbeats 1600000 in
theorem idle_any (p : Addr) (w : World) :
    CallsD Try.prog 45 #[.pointer (some p)] .returning w fun e u' w' => e = .returned (.tuple #[]) ∧ u' = .returning ∧ w' = w := by
  refine callsD_of_wpS Try.func45 rfl fun c₀ cs hu => ?_
  apply wpS_seq
  apply wpS_region
  simp [wpOpsS, go_sem, recoverD, hu, Try.ntmps45, Exit.thenS]
  refine wpS_of_wp ?_
  go_wp2
  cases c₀
  simp_all [bodyPostS, results, Try.results45]
set_option maxHeartbeats 1600000 in
theorem caught1_any (g : Nat) (r : Int) (older : List PanicEntry) (w : World) (hg : w.heap[g]? = some (.cells #[.int .i64 0] 39 (0, 0))) :
    CallsD Try.prog 45 #[.pointer (some ⟨g, 0, none⟩)] (.panicking ({ v := .iface 39 (.int .i64 r), recovered := false } :: older)) w fun e u' w' =>
      e = .returned (.tuple #[]) ∧ u' = .panicking ({ v := .iface 39 (.int .i64 r), recovered := true } :: older) ∧ w' = w.setCell ⟨g, 0, none⟩ (.int .i64 r) := by
  have h1 := not_nilE
  have h2 := is_errno
  have d0 := cell_blk hg (j := 0) rfl
  have f0 : w.frozen? ⟨g, 0, none⟩ = false := by simp [World.frozen?, hg]
  refine callsD_of_wpS Try.func45 rfl fun c₀ cs hu => ?_
  apply wpS_seq
  apply wpS_region
  simp [wpOpsS, go_sem, recoverD, hu, Try.ntmps45, Exit.thenS]
  refine wpS_of_wp ?_
  clear hg
  go_wp2_with fail
  cases c₀
  simp_all [bodyPostS, results, Try.results45]
end Go.Proofs.Ytldjcnpkgbdlpaa
