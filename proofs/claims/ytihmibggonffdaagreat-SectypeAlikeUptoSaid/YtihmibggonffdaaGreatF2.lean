/- E6, VK, VQ, E7, F1, F2 as one. -/
import Derived.Test.YtihmibggonffdaaGreatE5
import Derived.Recover
import Derived.Deep.RegionLaw
import Derived.OrdersHeld
import Derived.Deep.RegionHeld
import Derived.WalkKit
import Derived.ProofKit
import Derived.StillTailTactics
import Derived.BigQuiet
import Derived.Deep.QuietTactic
/- Size; what is done with a panic. -/
namespace Go.Proofs.YtihmibggonffdaaGreat
open Go.RowKit

def sumSc : List Fnc → Nat
  | [] => 0
  | f :: r => f.body.sc 1 + sumSc r
def Prg.total (x : Prg) : Nat := sumSc x.fns
structure PB (w : World) (N : Nat) (x : Prg) (pb : Nat) (p q : Option Addr) (c d : Nat) : Prop where
  cs : w.heap[pb]? = some (.cells #[.slice p x.regs.length c, .slice q x.fns.length d] 25 (0, 0))
  ok : x.Ok w N p q
theorem PB.but {w w' : World} {N : Nat} {x : Prg} {pb g : Nat} {p q : Option Addr} {c d : Nat} (h : PB w N x pb p q c d) (hB : But g w w') (hg : N ≤ g) (hN : N ≤ w.heap.size) (hp : pb ≠ g) : PB w' N x pb p q c d :=
  ⟨(hB.block _ (lt_blk h.cs) hp).trans h.cs, h.ok.later (hB.old hg hN) (Nat.le_refl N)⟩
theorem Fnc.At.bodyC {w : World} {N b o : Nat} {x : Fnc} (h : x.At w N b o) : ∃ p c, w.cell? ⟨b, o + 4, none⟩ = some (.slice p x.body.len c) ∧ x.body.In w N p := by
  obtain ⟨_, _, _, _, ⟨p, c, h1, h2⟩⟩ := h
  exact ⟨p, c, h1, h2⟩
theorem Row.start {α : Type} {N k : Nat} {A : α → Nat → Nat → Prop} {l : List α} {p : Option Addr} (h : RowIn N A k l p) : ∃ b o, (l.length = 0 ∨ p = some ⟨b, o, none⟩) ∧ (b < N ∨ l.length = 0) ∧ Row A k l b o := by
  rcases h.2 with h0 | ⟨b, o, hp, hb, ha⟩
  · exact ⟨0, 0, .inl h0, .inr h0, by cases l with | nil => trivial | cons => simp at h0⟩
  · exact ⟨b, o, .inr hp, .inl hb, ha⟩
theorem one_alloc (w : World) (o : Obj) : ∃ W, w.alloc o = W ∧ W.heap[w.heap.size]? = some o ∧ Below w.heap.size w W ∧ W.heap.size = w.heap.size + 1 :=
  ⟨_, rfl, heap_alloc_new w o, (Below.refl _ w).alloc (Nat.le_refl _) _, by simp⟩
set_option maxHeartbeats 3200000 in
theorem size1_any (x : Prg) (p q : Option Addr) (c d N pb g : Nat) (w : World) (hP : PB w N x pb p q c d) (hN : N ≤ w.heap.size) (hg : N ≤ g) (hC : Ct w g 0) (hpg : pb ≠ g) :
    Calls Tryz.prog 94 #[.pointer (some ⟨g, 0, none⟩), .pointer (some ⟨pb, 0, none⟩)] w (Cnt g 0 x.total w) := by
  obtain ⟨W0, hW0, k0, hB0, hz0⟩ := one_alloc w (.cells #[ctFn g] 1)
  have hgw : g < w.heap.size := lt_blk hC
  have HCb := Lib.hid (show Cb W0 g w.heap.size from ⟨k0, by omega⟩)
  have HB0 := Lib.hid (But.of_below (g := g) hB0)
  have HP := Lib.hid (hP.but HB0.out hg hN hpg)
  have HC := Lib.hid (hC.later hB0)
  have HN0 := Lib.hid (show N ≤ W0.heap.size by omega)
  have HW0 := Lib.hid hW0
  obtain ⟨hm, b, o, hq, hb, ha⟩ : x.fns.length ≤ 140737488355328 ∧ ∃ b o, (x.fns.length = 0 ∨ q = some ⟨b, o, none⟩) ∧ (b < N ∨ x.fns.length = 0) ∧ Row (Fnc.At W0 N) 5 x.fns b o := ⟨HP.out.ok.2.1, Row.start HP.out.ok.2⟩
  have Hb := Lib.hid hb
  have s1 : W0.cell? ⟨pb, 1, none⟩ = some (.slice q x.fns.length d) := cell_blk HP.out.cs (j := 1) rfl
  unfold ctFn at HW0
  unfold Prg.total
  clear hW0 k0 hB0 hz0 hP hC hb
  go_enter Tryz.func94, Tryz.ntmps94
  rw [← HW0.out] at s1
  go_wp2_with fail
  rw [HW0.out]
  clear HW0 s1
  go_loopw [8] (fun i wr => ∃ (k v : Nat) (r : List Fnc), i = .int .i64 k ∧ k + r.length = x.fns.length ∧ v ≤ 65536 ∧ Hid (Row (Fnc.At W0 N) 5 r b (o + k * 5)) ∧ Hid (Ct wr g v ∧ But g W0 wr) ∧ Hid (v + sumSc r = sumSc x.fns)) (fun i _ => x.fns.length - (intOf i).toNat)
  case atStart => exact ⟨0, 0, x.fns, rfl, by omega, by omega, Lib.hid (by rw [Nat.zero_mul]; exact ha), Lib.hid ⟨HC.out, But.refl _ _⟩, Lib.hid (by omega)⟩
  case round =>
    obtain ⟨k, v, r, rfl, hk, hv, hr, hCB, hE⟩ := hrel
    have s1r : wr.cell? ⟨pb, 1, none⟩ = some (.slice _ x.fns.length d) := cell_blk (HP.out.but hCB.out.2 hg HN0.out hpg).cs (j := 1) rfl
    cases r with
    | nil =>
      simp only [List.length_nil] at hk
      have hge : ¬ k < x.fns.length := by omega
      have hR := Lib.hid (show Cnt g 0 (sumSc x.fns) w (.returned (.tuple #[])) wr by
        have h := hE.out
        rw [sumSc, Nat.add_zero] at h
        subst h
        exact .ok (by omega) (by rw [Nat.zero_add]; exact hCB.out.1) (HB0.out.trans hCB.out.2))
      go_wp2_with fail
      go_end0
      exact hR.out
    | cons y r =>
      obtain ⟨hy, hr'⟩ := hr.out
      simp only [List.length_cons] at hk
      have hlt : k < x.fns.length := by omega
      rcases hq with h0 | rfl
      · omega
      have HEy := Lib.hid hE.out
      have HR := Lib.hid hr'
      obtain ⟨q4, c4, d4, hok4⟩ := Fnc.At.bodyC (Fnc.At.later (hCB.out.2.old hg HN0.out) (Nat.le_refl N) y b (o + k * 5) (by have := Hb.out; omega) hy)
      have hCl := Lib.hid (each_to _ y.body (Nat.lt_succ_self _) 1 (by omega) q4 c4 N wr v g w.heap.size hok4 (Nat.le_trans HN0.out hCB.out.2.size) hg (HCb.out.but hCB.out.2) hCB.out.1 hv)
      unfold seeFn at hCl
      rw [show ((1 : Nat) : Int) = 1 from rfl] at hCl
      clear hy hr' hr hE hok4
      go_wp2_with fail
      refine hCl.out.mono ?_
      intro z w3 hc
      rcases hc with ⟨h1, h2, h3⟩ | ⟨h1, h2, h3⟩
      rotate_left
      · have hR := Lib.hid (show Cnt g 0 (sumSc x.fns) w (Pn 13) w3 from .no (by have := HEy.out; rw [sumSc] at this; omega) h2 (HB0.out.trans (hCB.out.2.trans h3)))
        unfold Pn at hR ⊢
        clear h1 h2 h3
        go_wp2_with fail
        exact ⟨rfl, hR.out⟩
      have hCB2 := Lib.hid (And.intro h2 (hCB.out.2.trans h3))
      clear h2 h3
      go_wp2_with fail
      go_roundw
      case rel => exact ⟨k + 1, _, r, by go_num, by omega, h1, Lib.hid (by rw [show o + (k + 1) * 5 = o + k * 5 + 5 by omega]; exact HR.out), hCB2, Lib.hid (by have := HEy.out; rw [sumSc] at this; omega)⟩
      case measure => simp [intOf]; omega

theorem not_nilE (v : Value) (W : World) : (binOp .eql 20 (.iface 29 v) .nilIface).run Tryz.prog W = .ok (.bool false) W := by kernel_rfl
theorem is_errno (r : Int) (W : World) : (Instr.typeAssert (.iface 29 (.int .i64 r)) 20 29 true).run Tryz.prog W = .ok (.tuple #[.int .i64 r, .bool true]) W := by kernel_rfl
set_option maxHeartbeats 1600000 in
theorem idle_any (p : Addr) (w : World) :
    CallsD Tryz.prog 77 #[.pointer (some p)] .returning w fun e u' w' => e = .returned (.tuple #[]) ∧ u' = .returning ∧ w' = w := by
  refine callsD_of_wpS Tryz.func77 rfl fun c₀ cs hu => ?_
  apply wpS_seq
  apply wpS_region
  simp [wpOpsS, go_sem, recoverD, hu, Tryz.ntmps77, Exit.thenS]
  refine wpS_of_wp ?_
  go_wp2
  cases c₀
  simp_all [bodyPostS, results, Tryz.results77]
set_option maxHeartbeats 1600000 in
theorem caught1_any (g : Nat) (r : Int) (older : List PanicEntry) (w : World) (hg : w.heap[g]? = some (.cells #[.int .i64 0] 29 (0, 0))) :
    CallsD Tryz.prog 77 #[.pointer (some ⟨g, 0, none⟩)] (.panicking ({ v := .iface 29 (.int .i64 r), recovered := false } :: older)) w fun e u' w' =>
      e = .returned (.tuple #[]) ∧ u' = .panicking ({ v := .iface 29 (.int .i64 r), recovered := true } :: older) ∧ w' = w.setCell ⟨g, 0, none⟩ (.int .i64 r) := by
  have h1 := not_nilE
  have h2 := is_errno
  have d0 := cell_blk hg (j := 0) rfl
  have f0 : w.frozen? ⟨g, 0, none⟩ = false := by simp [World.frozen?, hg]
  refine callsD_of_wpS Tryz.func77 rfl fun c₀ cs hu => ?_
  apply wpS_seq
  apply wpS_region
  simp [wpOpsS, go_sem, recoverD, hu, Tryz.ntmps77, Exit.thenS]
  refine wpS_of_wp ?_
  clear hg
  go_wp2_with fail
  cases c₀
  simp_all [bodyPostS, results, Tryz.results77]
/- Taking an operation of a drawn region: its number and its value, the rest found. -/
open Go.RowKit

section
variable {P : Program} {md : Region.Mode} {ops : Array Oper} {Q : Exit → Act → World → Prop} {S : World → Prop}
theorem tk (i : Nat) (v : Value) {oi : Oper} {fuel : Nat} {listed : Array Bool} {a : Act} {w : World} (hi : ops.toList[i]? = some oi)
    (hy : YieldsIf P ops S oi v a) (h : wpAnyH P md ops Q S fuel (listed.setIfInBounds i true) (a.put oi.dst v) w)
    (hs : Region.noSelect ops = true := by kernel_rfl) (hf : Region.free md ops listed i = true := by kernel_rfl) (hr : (Region.ready md ops listed).contains i = true := by kernel_rfl)
    (hQ : ∀ c a w, Q (.panic c) (a.put oi.dst v) w → Q (.panic c) a w := by exact fun _ _ _ h => h) (hS : S w := by assumption) : wpAnyH P md ops Q S (fuel + 1) listed a w :=
  wpAnyH_take (Array.getElem?_toList.symm.trans hi) hs hf hr hQ hy hS h
theorem rdy {fuel : Nat} {listed : Array Bool} {a : Act} {w : World} {i : Nat} {o : Oper} {rs : List Nat} (ho : ops.toList[i]? = some o)
    (h : ∀ K' : Act → World → Prop, Shut (∀ a w, S w → (S w → wpAnyH P md ops Q S fuel (listed.setIfInBounds i true) a w) → K' a w) → if Region.wanted o (yielded ops a.tmps) = true then Oper.wp P o a w K' Q else K' (a.put o.dst undef) w)
    (hs : AllReadyH P md ops Q S fuel listed a w rs) : AllReadyH P md ops Q S fuel listed a w (i :: rs) :=
  AllReadyH.cons (Array.getElem?_toList.symm.trans ho) h hs
end
/- Taking an operation of a drawn region by its number alone. -/
open Go.RowKit

section
variable {P : Program} {md : Region.Mode} {ops : Array Oper} {Q : Exit → Act → World → Prop} {S : World → Prop}
theorem tq (i : Nat) {v : Value} {oi : Oper} {fuel : Nat} {listed : Array Bool} {a a' : Act} {w : World} (h : wpAnyH P md ops Q S fuel (listed.setIfInBounds i true) a' w)
    (hi : ops.toList[i]? = some oi := by rfl) (hy : YieldsIf P ops S oi v a := by (refine .inl ⟨by rfl, ?_⟩; intro w hSw; (try dsimp only at hSw); go_simp; try with_reducible rfl))
    (ha : a.put oi.dst v = a' := by ((try simp only [Act.put, List.setIfInBounds_toArray, List.set_cons_zero, List.set_cons_succ]); try rfl))
    (hs : Region.noSelect ops = true := by kernel_rfl) (hf : Region.free md ops listed i = true := by kernel_rfl) (hr : (Region.ready md ops listed).contains i = true := by kernel_rfl)
    (hQ : ∀ c a w, Q (.panic c) (a.put oi.dst v) w → Q (.panic c) a w := by exact fun _ _ _ h => h) (hS : S w := by assumption) : wpAnyH P md ops Q S (fuel + 1) listed a w :=
  wpAnyH_take (Array.getElem?_toList.symm.trans hi) hs hf hr hQ hy hS (ha ▸ h)
theorem sq (i : Nat) {oi : Oper} {fuel : Nat} {listed : Array Bool} {a a' : Act} {w : World} (h : wpAnyH P md ops Q S fuel (listed.setIfInBounds i true) a' w)
    (hi : ops.toList[i]? = some oi := by rfl) (hy : YieldsIf P ops S oi undef a := by exact .inr ⟨by rfl, rfl⟩)
    (ha : a.put oi.dst undef = a' := by ((try simp only [Act.put, List.setIfInBounds_toArray, List.set_cons_zero, List.set_cons_succ]); try rfl))
    (hs : Region.noSelect ops = true := by kernel_rfl) (hf : Region.free md ops listed i = true := by kernel_rfl) (hr : (Region.ready md ops listed).contains i = true := by kernel_rfl)
    (hQ : ∀ c a w, Q (.panic c) (a.put oi.dst undef) w → Q (.panic c) a w := by exact fun _ _ _ h => h) (hS : S w := by assumption) : wpAnyH P md ops Q S (fuel + 1) listed a w :=
  wpAnyH_take (Array.getElem?_toList.symm.trans hi) hs hf hr hQ hy hS (ha ▸ h)
end
/- Size, whole. -/
open Go.RowKit

def cap (t : Nat) : Nat := if t ≤ 65536 then t else 65537
theorem Cnt.cap {g t : Nat} {w w' : World} {z : Ending} (h : Cnt g 0 t w z w') : (z = .returned (.tuple #[]) ∨ z = Pn 13) ∧ Ct w' g (cap t) ∧ But g w w' := by
  rcases h with ⟨h1, h2, h3⟩ | ⟨h1, h2, h3⟩
  · rw [Nat.zero_add] at h1 h2
    exact ⟨.inl rfl, by rw [Proofs.YtihmibggonffdaaGreat.cap, if_pos h1]; exact h2, h3⟩
  · rw [Nat.zero_add] at h1
    exact ⟨.inr rfl, by rw [Proofs.YtihmibggonffdaaGreat.cap, if_neg (by omega)]; exact h2, h3⟩
set_option maxHeartbeats 3200000 in
theorem caughtSize_any (t pb g : Nat) (w : World) (hg : g < w.heap.size) (h : ∀ W, Below w.heap.size w W → Calls Tryz.prog 94 #[.pointer (some ⟨g, 0, none⟩), .pointer (some ⟨pb, 0, none⟩)] W (Cnt g 0 t W)) :
    Calls Tryz.prog 50 #[.func (.func 94) #[] #[.pointer (some ⟨g, 0, none⟩), .pointer (some ⟨pb, 0, none⟩)]] w fun z w' => (∃ r, z = .returned (.int .i64 r)) ∧ Ct w' g (cap t) ∧ But g w w' := by
  have hmf : ∀ (fn : Fn) (first cap : Array Value) (w : World), (Instr.makeFunc fn first cap).run Tryz.prog w = .ok (.func fn first cap) w := fun _ _ _ _ => rfl
  obtain ⟨W0, hW0, k0, hB0, hz0⟩ := one_alloc w (.cells #[.int .i64 0] 29)
  have HCl := Lib.hid (h W0 hB0)
  have HB0 := Lib.hid (But.of_below (g := g) hB0)
  have HK := Lib.hid k0
  have HW0 := Lib.hid hW0
  have hne : w.heap.size ≠ g := by omega
  clear hW0 k0 hB0 hz0 h
  go_enter_defers Tryz.func50, Tryz.ntmps50
  go_wp2_with fail
  rw [HW0.out]
  refine HCl.out.mono ?_
  intro z w1 hc
  obtain ⟨hz, h2, h3⟩ := hc.cap
  have k1 := (h3.block _ (lt_blk HK.out) hne).trans HK.out
  have H1 := Lib.hid (And.intro h2 (HB0.out.trans h3))
  have HK1 := Lib.hid k1
  clear hc h2 h3
  rcases hz with rfl | rfl
  · have c0 : w1.cell? ⟨w.heap.size, 0, none⟩ = some (.int .i64 0) := cell_blk k1 rfl
    have f0 : w1.frozen? ⟨w.heap.size, 0, none⟩ = false := by simp [World.frozen?, k1]
    have hF := heap_setCell_one k1 (.int .i64 0)
    have H2 := Lib.hid (show Ct (w1.setCell ⟨w.heap.size, 0, none⟩ (.int .i64 0)) g (cap t) ∧ But g w (w1.setCell ⟨w.heap.size, 0, none⟩ (.int .i64 0)) from ⟨(Below.heap_setCell w1 _ _ _ (Ne.symm hne)).trans H1.out.1, ⟨H1.out.2.os, H1.out.2.tape, H1.out.2.output, by simpa [World.setCell] using H1.out.2.size, fun k hk hn => (Below.heap_setCell w1 _ _ _ (Nat.ne_of_lt hk)).trans (H1.out.2.block k hk hn)⟩⟩)
    have HF := Lib.hid hF
    clear k1 hF
    go_wp2_with fail
    refine leaves_cons (f := 77) (args := #[.pointer (some ⟨w.heap.size, 0, none⟩)]) (by simp) (by simp [go_sem]) ?_
    refine (idle_any _ _).mono ?_
    rintro e u w9 ⟨rfl, rfl, rfl⟩
    have y0 := cell_blk HF.out (j := 0) rfl
    refine ⟨.int .i64 0, ?_, ⟨0, rfl⟩, H2.out⟩
    simp [results, Tryz.results50, go_sem, y0]
  · unfold Pn
    go_wp2_with fail
    refine leaves_cons (f := 77) (args := #[.pointer (some ⟨w.heap.size, 0, none⟩)]) (by simp) (by simp [go_sem]) ?_
    refine (caught1_any w.heap.size 13 [] w1 HK1.out).mono ?_
    rintro e u w9 ⟨rfl, rfl, rfl⟩
    have hF := heap_setCell_one HK1.out (.int .i64 13)
    have y0 := cell_blk hF (j := 0) rfl
    have H2 : Ct (w1.setCell ⟨w.heap.size, 0, none⟩ (.int .i64 13)) g (cap t) ∧ But g w (w1.setCell ⟨w.heap.size, 0, none⟩ (.int .i64 13)) := ⟨(Below.heap_setCell w1 _ _ _ (Ne.symm hne)).trans H1.out.1, ⟨H1.out.2.os, H1.out.2.tape, H1.out.2.output, by simpa [World.setCell] using H1.out.2.size, fun k hk hn => (Below.heap_setCell w1 _ _ _ (Nat.ne_of_lt hk)).trans (H1.out.2.block k hk hn)⟩⟩
    show Leaves _ _ _ _ [] (settle _) _
    refine ⟨.int .i64 13, ?_, ⟨13, rfl⟩, H2⟩
    simp [results, Tryz.results50, go_sem, y0]

theorem two_alloc (w : World) (o0 o1 : Obj) : ∃ W, (w.alloc o0).alloc o1 = W ∧ W.heap[w.heap.size]? = some o0 ∧ W.heap[w.heap.size + 1]? = some o1 ∧ Below w.heap.size w W ∧ W.heap.size = w.heap.size + 2 := by
  refine ⟨_, rfl, ?_, ?_, ((Below.refl _ w).alloc (Nat.le_refl _) _).alloc (by simp) _, by simp⟩
  · rw [Below.heap_alloc _ _ _ (by simp)]; exact heap_alloc_new w o0
  · have := heap_alloc_new (w.alloc o0) o1; simpa using this
structure PrgP where
  (p q : Option Addr) (c d : Nat)
def Prg.v (x : Prg) (s : PrgP) : Value := .agg #[.slice s.p x.regs.length s.c, .slice s.q x.fns.length s.d]
set_option maxHeartbeats 1600000 in
theorem size_any (x : Prg) (s : PrgP) (N : Nat) (w : World) (h : x.Ok w N s.p s.q) (hN : N ≤ w.heap.size) :
    Calls Tryz.prog 80 #[x.v s] w fun z w' => z = .returned (.int .i64 (cap x.total : Nat)) ∧ Below w.heap.size w w' := by
  obtain ⟨W0, hW0, k0, k1, hB0, hz0⟩ := two_alloc w (.cells #[.slice s.p x.regs.length s.c, .slice s.q x.fns.length s.d] 25) (.cells #[.int .i64 0] 3)
  have HCl := Lib.hid (caughtSize_any x.total w.heap.size (w.heap.size + 1) W0 (by omega) fun W hW => size1_any x s.p s.q s.c s.d N w.heap.size (w.heap.size + 1) W ⟨(hW.block _ (lt_blk k0)).trans k0, h.later ((hB0.trans (hW.mono (by omega))).mono hN) (Nat.le_refl N)⟩ (by have := hW.size; omega) (by omega) ((hW.block _ (lt_blk k1)).trans k1) (by omega))
  have HB0 := Lib.hid (show Below w.heap.size w W0 ∧ w.heap.size ≤ W0.heap.size from ⟨hB0, by omega⟩)
  have HW0 := Lib.hid hW0
  unfold Prg.v
  clear hW0 k0 k1 hB0 hz0 h
  go_enter Tryz.func80, Tryz.ntmps80
  go_wp2_with fail
  rw [HW0.out]
  refine HCl.out.mono ?_
  rintro z w1 ⟨⟨r, rfl⟩, h2, h3⟩
  have c0 : w1.cell? ⟨w.heap.size + 1, 0, none⟩ = some (.int .i64 (cap x.total : Nat)) := cell_blk h2 rfl
  have HB := Lib.hid (But.below HB0.out.1 h3 (by omega) HB0.out.2)
  clear h2 h3
  go_wp2_with fail
  go_ret
  exact ⟨rfl, HB.out⟩
/- How many parts a program has. -/
open Go.RowKit

theorem Chk.no' {r e : Nat} {w w' : World} (h : r = e) (he : e ≠ 0) (hB : Below w.heap.size w w') : Chk r w (Pn (e : Int)) w' := by subst h; exact .no he hB
theorem few_yes (n l m : Int) (w : World) (h : (decide (l ≤ n) && decide (n ≤ m)) = true) : Calls Tryz.prog 78 #[.int .i64 n, .int .i64 l, .int .i64 m] w fun z w' => z = .returned (.tuple #[]) ∧ w' = w := by
  simp only [Bool.and_eq_true] at h
  obtain ⟨h1, h2⟩ := h
  go_enter Tryz.func78, Tryz.ntmps78
  go_wp2_with (go_at_call 79; refine (must_yes 13 _).mono ?_; rintro e w' ⟨rfl, rfl⟩)
  go_end0
  exact ⟨rfl, rfl⟩
theorem few_no (n l m : Int) (w : World) (h : (decide (l ≤ n) && decide (n ≤ m)) = false) : Calls Tryz.prog 78 #[.int .i64 n, .int .i64 l, .int .i64 m] w fun z w' => z = Pn 13 ∧ w' = w := by
  cases h1 : decide (l ≤ n) with
  | false =>
    clear h
    go_enter Tryz.func78, Tryz.ntmps78
    go_wp2_with (go_at_call 79; refine (must_no 13 _).mono ?_; rintro e w' ⟨rfl, rfl⟩; unfold Pn)
    exact ⟨rfl, rfl, rfl⟩
  | true =>
    rw [h1, Bool.true_and] at h
    go_enter Tryz.func78, Tryz.ntmps78
    go_wp2_with (go_at_call 79; refine (must_no 13 _).mono ?_; rintro e w' ⟨rfl, rfl⟩; unfold Pn)
    exact ⟨rfl, rfl, rfl⟩
def fewB (n l m : Int) : Bool := decide (l ≤ n) && decide (n ≤ m)
theorem few_any (n l m : Int) (w : World) : Calls Tryz.prog 78 #[.int .i64 n, .int .i64 l, .int .i64 m] w fun z w' => ((fewB n l m = true ∧ z = .returned (.tuple #[])) ∨ (fewB n l m = false ∧ z = Pn 13)) ∧ w = w' := by
  cases h : fewB n l m with
  | true => exact (few_yes n l m w h).mono fun z w' hz => ⟨.inl ⟨rfl, hz.1⟩, hz.2.symm⟩
  | false => exact (few_no n l m w h).mono fun z w' hz => ⟨.inr ⟨rfl, hz.1⟩, hz.2.symm⟩
def Rgn.few (r : Rgn) : Bool := fewB r.size 1 512
def Vr.few (v : Vr) : Bool := !((v.kind == 2) || (v.kind == 3)) || fewB v.size 1 512
def Fnc.few (f : Fnc) : Bool := fewB ((f.params.length : Int) + (f.vars.length : Int)) 0 64 && fewB f.rets.length 0 64 && f.params.all Vr.few && f.vars.all Vr.few
def Prg.few (x : Prg) : Bool := fewB x.regs.length 0 16 && fewB x.fns.length 1 32 && x.regs.all Rgn.few && x.fns.all Fnc.few && fewB (cap x.total) 0 65536
/- How many parts a program has: the walk. -/
open Go.RowKit

theorem Rgn.At.of {w : World} {x : Rgn} {b o : Nat} (h : x.At w b o) {w' : World} {N : Nat} (hB : Below N w w') (hb : b < N) : x.At w' b o := Rgn.At.later hB x b o hb h
theorem Fnc.At.all {w : World} {N b o : Nat} {x : Fnc} (h : x.At w N b o) : ∃ s : FncP, w.cell? ⟨b, o, none⟩ = some (.string (str x.name)) ∧ w.cell? ⟨b, o + 1, none⟩ = some (.slice s.pp x.params.length s.cp) ∧ w.cell? ⟨b, o + 2, none⟩ = some (.slice s.pv x.vars.length s.cv) ∧ w.cell? ⟨b, o + 3, none⟩ = some (.slice s.pr x.rets.length s.cr) ∧ w.cell? ⟨b, o + 4, none⟩ = some (.slice s.pb x.body.len s.cb) ∧ x.Ok w N s := by
  obtain ⟨h0, ⟨p1, c1, g1, s1⟩, ⟨p2, c2, g2, s2⟩, ⟨p3, c3, g3, s3⟩, ⟨p4, c4, g4, s4⟩⟩ := h
  exact ⟨⟨p1, p2, p3, p4, c1, c2, c3, c4⟩, h0, g1, g2, g3, g4, s1, s2, s3, s4⟩
theorem index_0 (a b : Option Addr) (n m c d : Nat) (w : World) : (Instr.index 134 (.agg #[.slice a n c, .slice b m d]) (.int .i64 0)).run Tryz.prog w = .ok (.slice a n c) w := by kernel_rfl
theorem index_1 (a b : Option Addr) (n m c d : Nat) (w : World) : (Instr.index 134 (.agg #[.slice a n c, .slice b m d]) (.int .i64 1)).run Tryz.prog w = .ok (.slice b m d) w := by kernel_rfl
set_option maxRecDepth 100000 in
set_option maxHeartbeats 12800000 in
theorem mustBeFew_any (x : Prg) (s : PrgP) (N : Nat) (w : World) (h : x.Ok w N s.p s.q) (hN : N ≤ w.heap.size) :
    Calls Tryz.prog 52 #[x.v s] w (Chk (ask x.few 13) w) := by
  obtain ⟨p, q, c, d⟩ := s
  obtain ⟨W0, hW0, k0, hB0, hz0⟩ := one_alloc w (.cells #[.slice p x.regs.length c, .slice q x.fns.length d] 25)
  have hOk := h.later (hB0.mono hN) (Nat.le_refl N)
  obtain ⟨b, o, hp, hb, ha⟩ := Row.start hOk.1
  obtain ⟨b', o', hq, hb', ha'⟩ := Row.start hOk.2
  have hm := hOk.1.1
  have hm' := hOk.2.1
  have HA := Lib.hid (And.intro ha hb)
  have HA' := Lib.hid (And.intro ha' hb')
  have HN0 := Lib.hid (show N ≤ W0.heap.size by omega)
  have HB0 := Lib.hid hB0
  have HZ0 := Lib.hid hz0
  have HW0 := Lib.hid hW0
  have HK := Lib.hid k0
  have HNo := Lib.hid (fun (w' : World) (hf : x.few = false) (hB : Below W0.heap.size W0 w') => show Chk (ask x.few 13) w (Pn 13) w' from Chk.no' (e := 13) (by rw [hf]; rfl) (by decide) (HB0.out.trans (hB.mono (by omega))))
  have HTot := Lib.hid (fun (w1 : World) (hB : Below W0.heap.size W0 w1) => size_any x ⟨p, q, c, d⟩ N w1 (hOk.later (hB.mono HN0.out) (Nat.le_refl N)) (Nat.le_trans HN0.out hB.size))
  unfold Pn at HNo
  unfold Prg.v at HTot ⊢
  clear hW0 k0 hB0 h hb hb' ha ha' hOk hz0
  go_enter Tryz.func52, Tryz.ntmps52
  go_wp2_with fail
  rw [HW0.out]
  have HF := Lib.hid few_any
  refine (HF.out (x.regs.length : Int) 0 16 _).mono ?_
  rintro z w1 ⟨⟨f1, rfl⟩ | ⟨f1, rfl⟩, rfl⟩
  rotate_left
  · have HG := Lib.hid f1
    clear f1
    unfold Pn
    go_wp2_with fail
    exact ⟨rfl, HNo.out _ (by simp only [Prg.few, HG.out, Bool.false_and]) (Below.refl _ _)⟩
  have c0 : W0.cell? ⟨w.heap.size, 0, none⟩ = some (.slice p x.regs.length c) := cell_blk HK.out rfl
  have c1 : W0.cell? ⟨w.heap.size, 1, none⟩ = some (.slice q x.fns.length d) := cell_blk HK.out rfl
  have F1 := Lib.hid f1
  clear f1
  go_wp2_with fail
  refine (HF.out (x.fns.length : Int) 1 32 _).mono ?_
  rintro z w1 ⟨⟨f2, rfl⟩ | ⟨f2, rfl⟩, rfl⟩
  rotate_left
  · have HG := Lib.hid f2
    clear f2
    unfold Pn
    go_wp2_with fail
    exact ⟨rfl, HNo.out _ (by simp only [Prg.few, HG.out, Bool.false_and, Bool.and_false]) (Below.refl _ _)⟩
  have F2 := Lib.hid f2
  clear f2
  go_wp2_with fail
  go_loopw [24] (fun i wr => ∃ (k : Nat) (r : List Rgn), i = .int .i64 k ∧ k + r.length = x.regs.length ∧ Hid (Row (Rgn.At W0) 4 r b (o + k * 4)) ∧ Hid (Below W0.heap.size W0 wr) ∧ Hid (r.all Rgn.few = x.regs.all Rgn.few)) (fun i _ => x.regs.length - (intOf i).toNat)
  case atStart => exact ⟨0, x.regs, rfl, by omega, Lib.hid (by rw [Nat.zero_mul]; exact HA.out.1), Lib.hid (Below.refl _ _), Lib.hid rfl⟩
  case round =>
    obtain ⟨k, r, rfl, hk, hr, hB, hE⟩ := hrel
    cases r with
    | cons y r =>
      obtain ⟨hy, hr'⟩ := hr.out
      simp only [List.length_cons] at hk
      have hlt : k < x.regs.length := by omega
      rcases hp with h0 | rfl
      · omega
      obtain ⟨d0, d1, d2, d3⟩ := Rgn.At.of hy hB.out (by have := HA.out.2; have := HN0.out; omega)
      have HR := Lib.hid hr'
      clear hy hr hr' c0 c1
      go_wp2_with fail
      refine (HF.out y.size 1 512 _).mono ?_
      rintro z w1 ⟨⟨f3, rfl⟩ | ⟨f3, rfl⟩, rfl⟩
      rotate_left
      · have HG := Lib.hid f3
        clear f3
        unfold Pn
        go_wp2_with fail
        exact ⟨rfl, HNo.out _ (by have := hE.out; rw [List.all_cons, show y.few = false from HG.out, Bool.false_and] at this; simp only [Prg.few, ← this, Bool.false_and, Bool.and_false]) (hB.out.alloc hB.out.size _)⟩
      have HE := Lib.hid (show r.all Rgn.few = x.regs.all Rgn.few by have := hE.out; rw [List.all_cons, show y.few = true from f3, Bool.true_and] at this; exact this)
      clear f3
      go_wp2_with fail
      go_roundw
      case rel => exact ⟨k + 1, r, by go_num, by omega, Lib.hid (by rw [show o + (k + 1) * 4 = o + k * 4 + 4 by omega]; exact HR.out), Lib.hid (hB.out.alloc hB.out.size _), HE⟩
      case measure => simp [intOf]; omega
    | nil =>
      simp only [List.length_nil] at hk
      have hge : ¬ k < x.regs.length := by omega
      have F3 := Lib.hid hE.out.symm
      have c1r : wr.cell? ⟨w.heap.size, 1, none⟩ = some (.slice q x.fns.length d) := cell_blk ((hB.out.block _ (lt_blk HK.out)).trans HK.out) rfl
      clear c0 c1 hr hE
      go_wp2_with fail
      obtain ⟨wq, rfl⟩ : ∃ wq : World, wq = wr := ⟨_, rfl⟩
      have HBq := Lib.hid hB.out
      clear hB c1r
      go_loopw [36] (fun i wr => ∃ (k : Nat) (r : List Fnc), i = .int .i64 k ∧ k + r.length = x.fns.length ∧ Hid (Row (Fnc.At W0 N) 5 r b' (o' + k * 5)) ∧ Hid (Below W0.heap.size W0 wr) ∧ Hid (r.all Fnc.few = x.fns.all Fnc.few)) (fun i _ => x.fns.length - (intOf i).toNat)
      case atStart => exact ⟨0, x.fns, rfl, by omega, Lib.hid (by rw [Nat.zero_mul]; exact HA'.out.1), HBq, Lib.hid rfl⟩
      case round =>
        obtain ⟨k', r, rfl, hk', hr, hB, hE⟩ := hrel
        have c1 : wr.cell? ⟨w.heap.size, 1, none⟩ = some (.slice q x.fns.length d) := cell_blk ((hB.out.block _ (lt_blk HK.out)).trans HK.out) rfl
        have c0 : wr.cell? ⟨w.heap.size, 0, none⟩ = some (.slice p x.regs.length c) := cell_blk ((hB.out.block _ (lt_blk HK.out)).trans HK.out) rfl
        cases r with
        | nil =>
          simp only [List.length_nil] at hk'
          have hge' : ¬ k' < x.fns.length := by omega
          have F4 := Lib.hid hE.out.symm
          have HT := Lib.hid (HTot.out wr hB.out)
          clear hE hr
          go_wp2_with fail
          refine HT.out.mono ?_
          rintro z w1 ⟨rfl, hB1⟩
          have HB1 := Lib.hid (hB.out.trans (hB1.mono hB.out.size))
          clear hB1
          go_wp2_with fail
          refine (HF.out (cap x.total : Nat) 0 65536 _).mono ?_
          rintro z w1 ⟨⟨f5, rfl⟩ | ⟨f5, rfl⟩, rfl⟩
          rotate_left
          · have HG := Lib.hid f5
            clear f5
            unfold Pn
            go_wp2_with fail
            exact ⟨rfl, HNo.out _ (by simp only [Prg.few, HG.out, Bool.and_false]) HB1.out⟩
          have HOK := Lib.hid (show Chk (ask x.few 13) w (.returned (.tuple #[])) w1 from .ok (by
            have e1 := F1.out; have e2 := F2.out; have e3 := F3.out; have e4 := F4.out
            rw [List.all_nil] at e3 e4
            simp only [Prg.few, e1, e2, e3, e4, f5]; rfl) (HB0.out.trans (HB1.out.mono (by have := HZ0.out; omega))))
          clear f5
          go_wp2_with fail
          go_end0
          exact HOK.out
        | cons y r =>
          obtain ⟨hy, hr'⟩ := hr.out
          simp only [List.length_cons] at hk'
          have hlt' : k' < x.fns.length := by omega
          rcases hq with h0 | rfl
          · omega
          have hbn' : b' < W0.heap.size := by have := HA'.out.2; have := HN0.out; omega
          obtain ⟨⟨pp, pv, pr, pb, cp, cv, cr, cb⟩, g0', g1', g2', g3', g4', hok⟩ := Fnc.At.all hy
          have g1 := (hB.out.cell (p := ⟨b', o' + k' * 5 + 1, none⟩) hbn').trans g1'
          have g2 := (hB.out.cell (p := ⟨b', o' + k' * 5 + 2, none⟩) hbn').trans g2'
          have g3 := (hB.out.cell (p := ⟨b', o' + k' * 5 + 3, none⟩) hbn').trans g3'
          clear g0' g1' g2' g3' g4' hbn'
          have hmp := hok.1.1
          have hmv := hok.2.1.1
          have hsum : IntKind.i64.wrap ((y.params.length : Int) + (y.vars.length : Int)) = (y.params.length : Int) + (y.vars.length : Int) := by simp [IntKind.wrap, IntKind.bits, IntKind.signed]; omega
          have HR := Lib.hid hr'
          have HOk := Lib.hid hok
          have HFail := Lib.hid (fun (hf : y.few = false) => show x.few = false by have := hE.out; rw [List.all_cons, hf, Bool.false_and] at this; simp only [Prg.few, ← this, Bool.false_and, Bool.and_false])
          have HNo2 := Lib.hid (fun (hf : fewB ((y.params.length : Int) + (y.vars.length : Int)) 0 64 = false) => HNo.out wr.drew (HFail.out (by simp only [Fnc.few, hf, Bool.false_and])) hB.out.drew)
          clear hy hr hr' hok
          go_wp2_with fail
          go_still_tail 12, (by kernel_rfl)
          change wpList _ _ _ _ _ (World.drew _)
          go_wp2_with fail
          refine (HF.out ((y.params.length : Int) + (y.vars.length : Int)) 0 64 _).mono ?_
          rintro z w1 ⟨⟨f6, rfl⟩ | ⟨f6, rfl⟩, rfl⟩
          rotate_left
          · have HG := Lib.hid f6
            clear f6
            unfold Pn
            go_wp2_with fail
            exact ⟨rfl, HNo.out _ (by exact HFail.out (by simp only [Fnc.few, HG.out, Bool.false_and])) hB.out.drew⟩
          have F6 := Lib.hid f6
          clear f6 HNo2
          go_wp2_with fail
          refine (HF.out (y.rets.length : Int) 0 64 _).mono ?_
          rintro z w1 ⟨⟨f7, rfl⟩ | ⟨f7, rfl⟩, rfl⟩
          rotate_left
          · have HG := Lib.hid f7
            clear f7
            unfold Pn
            go_wp2_with fail
            exact ⟨rfl, HNo.out _ (by exact HFail.out (by simp only [Fnc.few, HG.out, Bool.false_and, Bool.and_false])) hB.out.drew⟩
          have F7 := Lib.hid f7
          clear f7
          go_wp2_with fail
          go_quiet (fail)
          go_wp2_with fail
          have HBz := Lib.hid (below_drewN hB.out.drew nq)
          generalize wr.drew.drewN nq = wz at HBz ⊢
          have HPB := Lib.hid (Row.start HOk.out.1)
          have HVB := Lib.hid (Row.start HOk.out.2.1)
          clear g1 g2 g3 c0 c1 hB
          go_loopw [72] (fun i wr => ∃ (k3 : Nat), i = .int .i64 k3 ∧ k3 ≤ 2 ∧ Hid (Below W0.heap.size W0 wr) ∧ Hid (1 ≤ k3 → y.params.all Vr.few = true) ∧ Hid (2 ≤ k3 → y.vars.all Vr.few = true)) (fun i _ => 2 - (intOf i).toNat)
          case atStart => exact ⟨0, rfl, by omega, HBz, Lib.hid (fun h => by omega), Lib.hid (fun h => by omega)⟩
          case round =>
            obtain ⟨wl, rfl⟩ : ∃ wl : World, wl = wr := ⟨_, rfl⟩
            obtain ⟨k3, rfl, hk3, hB3, hp3, hv3⟩ := hrel
            rcases (show k3 = 0 ∨ k3 = 1 ∨ k3 = 2 by omega) with rfl | rfl | rfl
            · obtain ⟨b4, o4, hp4, hb4, ha4⟩ := HPB.out
              have HA4 := Lib.hid (And.intro ha4 hb4)
              clear ha4 hb4
              have hi0 := index_0
              have hi1 := index_1
              go_wp2_with fail
              clear hi0 hi1
              go_loopw [77] (fun i wr => ∃ (k : Nat) (r : List Vr), i = .int .i64 k ∧ k + r.length = y.params.length ∧ Hid (∀ (hb : b4 < N), Row (Vr.At W0) 4 r b4 (o4 + k * 4)) ∧ Hid (Below W0.heap.size W0 wr) ∧ Hid (r.all Vr.few = y.params.all Vr.few)) (fun i _ => y.params.length - (intOf i).toNat)
              case atStart => exact ⟨0, y.params, rfl, by omega, Lib.hid (fun hb => by rw [Nat.zero_mul]; exact HA4.out.1), hB3, Lib.hid rfl⟩
              case round =>
                obtain ⟨k4, r4, rfl, hk4, hr4, hB4, hE4⟩ := hrel
                cases r4 with
                | nil =>
                  simp only [List.length_nil] at hk4
                  have hge4 : ¬ k4 < y.params.length := by omega
                  have HE4 := Lib.hid hE4.out.symm
                  clear hE4
                  go_wp2_with fail
                  go_roundw
                  case rel => exact ⟨1, by go_num, by omega, hB4, Lib.hid (fun _ => HE4.out), Lib.hid (fun h => by omega)⟩
                  case measure => simp [intOf]
                | cons v r4 =>
                  simp only [List.length_cons] at hk4
                  have hlt4 : k4 < y.params.length := by omega
                  rcases hp4 with h0 | rfl
                  · omega
                  have hbN : b4 < N := by have := HA4.out.2; omega
                  obtain ⟨hv, hr4'⟩ := hr4.out hbN
                  obtain ⟨d0, d1, d2, d3⟩ := Vr.At.later hB4.out v b4 _ (by have := HN0.out; omega) hv
                  have HR4 := Lib.hid hr4'
                  have HB5 := Lib.hid (hB4.out.alloc hB4.out.size (.cells #[.string (str v.name), .int .i64 v.kind, .int .i64 v.size, .bool v.secret] 58))
                  have HFail4 := Lib.hid (fun (hf : v.few = false) => HFail.out (by have := hE4.out; rw [List.all_cons, hf, Bool.false_and] at this; simp only [Fnc.few, ← this, Bool.false_and, Bool.and_false]))
                  have HE5 := Lib.hid (fun (hf : v.few = true) => show r4.all Vr.few = y.params.all Vr.few by have := hE4.out; rw [List.all_cons, hf, Bool.true_and] at this; exact this)
                  unfold Vr.few at HFail4 HE5
                  clear hv hr4 hr4' hE4
                  generalize e2 : (v.kind == 2) = t2 at HFail4 HE5 ⊢
                  generalize e3 : (v.kind == 3) = t3 at HFail4 HE5 ⊢
                  cases t2 <;> cases t3
                  · have HE6 := Lib.hid (HE5.out rfl)
                    clear HE5
                    go_wp2_with fail
                    go_roundw
                    case rel => exact ⟨k4 + 1, r4, by go_num, by omega, Lib.hid (fun hb => by rw [show o4 + (k4 + 1) * 4 = o4 + k4 * 4 + 4 by omega]; exact HR4.out), HB5, HE6⟩
                    case measure => simp [intOf]; omega
                  all_goals
                    (go_wp2_with fail
                     refine (HF.out v.size 1 512 _).mono ?_
                     rintro z w1 ⟨⟨f8, rfl⟩ | ⟨f8, rfl⟩, rfl⟩
                     · have HE6 := Lib.hid (HE5.out (by rw [f8]; rfl))
                       clear HE5 f8
                       go_wp2_with fail
                       refine ⟨⟨k4 + 1, r4, by go_num, by omega, Lib.hid (fun hb => by rw [show o4 + (k4 + 1) * 4 = o4 + k4 * 4 + 4 by omega]; exact HR4.out), HB5, HE6⟩, ?_⟩
                       simp [intOf]; omega
                     · have HG := Lib.hid (HFail4.out (by rw [f8]; rfl))
                       clear f8
                       unfold Pn
                       go_wp2_with fail
                       exact ⟨rfl, HNo.out _ HG.out HB5.out⟩)
            · obtain ⟨b4, o4, hp4, hb4, ha4⟩ := HVB.out
              have HA4 := Lib.hid (And.intro ha4 hb4)
              clear ha4 hb4
              have hi0 := index_0
              have hi1 := index_1
              go_wp2_with fail
              clear hi0 hi1
              go_loopw [77] (fun i wr => ∃ (k : Nat) (r : List Vr), i = .int .i64 k ∧ k + r.length = y.vars.length ∧ Hid (∀ (hb : b4 < N), Row (Vr.At W0) 4 r b4 (o4 + k * 4)) ∧ Hid (Below W0.heap.size W0 wr) ∧ Hid (r.all Vr.few = y.vars.all Vr.few)) (fun i _ => y.vars.length - (intOf i).toNat)
              case atStart => exact ⟨0, y.vars, rfl, by omega, Lib.hid (fun hb => by rw [Nat.zero_mul]; exact HA4.out.1), hB3, Lib.hid rfl⟩
              case round =>
                obtain ⟨k4, r4, rfl, hk4, hr4, hB4, hE4⟩ := hrel
                cases r4 with
                | nil =>
                  simp only [List.length_nil] at hk4
                  have hge4 : ¬ k4 < y.vars.length := by omega
                  have HE4 := Lib.hid hE4.out.symm
                  clear hE4
                  go_wp2_with fail
                  go_roundw
                  case rel => exact ⟨2, by go_num, by omega, hB4, Lib.hid (fun _ => hp3.out (by omega)), Lib.hid (fun _ => HE4.out)⟩
                  case measure => simp [intOf]
                | cons v r4 =>
                  simp only [List.length_cons] at hk4
                  have hlt4 : k4 < y.vars.length := by omega
                  rcases hp4 with h0 | rfl
                  · omega
                  have hbN : b4 < N := by have := HA4.out.2; omega
                  obtain ⟨hv, hr4'⟩ := hr4.out hbN
                  obtain ⟨d0, d1, d2, d3⟩ := Vr.At.later hB4.out v b4 _ (by have := HN0.out; omega) hv
                  have HR4 := Lib.hid hr4'
                  have HB5 := Lib.hid (hB4.out.alloc hB4.out.size (.cells #[.string (str v.name), .int .i64 v.kind, .int .i64 v.size, .bool v.secret] 58))
                  have HFail4 := Lib.hid (fun (hf : v.few = false) => HFail.out (by have := hE4.out; rw [List.all_cons, hf, Bool.false_and] at this; simp only [Fnc.few, ← this, Bool.and_false]))
                  have HE5 := Lib.hid (fun (hf : v.few = true) => show r4.all Vr.few = y.vars.all Vr.few by have := hE4.out; rw [List.all_cons, hf, Bool.true_and] at this; exact this)
                  unfold Vr.few at HFail4 HE5
                  clear hv hr4 hr4' hE4
                  generalize e2 : (v.kind == 2) = t2 at HFail4 HE5 ⊢
                  generalize e3 : (v.kind == 3) = t3 at HFail4 HE5 ⊢
                  cases t2 <;> cases t3
                  · have HE6 := Lib.hid (HE5.out rfl)
                    clear HE5
                    go_wp2_with fail
                    go_roundw
                    case rel => exact ⟨k4 + 1, r4, by go_num, by omega, Lib.hid (fun hb => by rw [show o4 + (k4 + 1) * 4 = o4 + k4 * 4 + 4 by omega]; exact HR4.out), HB5, HE6⟩
                    case measure => simp [intOf]; omega
                  all_goals
                    (go_wp2_with fail
                     refine (HF.out v.size 1 512 _).mono ?_
                     rintro z w1 ⟨⟨f8, rfl⟩ | ⟨f8, rfl⟩, rfl⟩
                     · have HE6 := Lib.hid (HE5.out (by rw [f8]; rfl))
                       clear HE5 f8
                       go_wp2_with fail
                       refine ⟨⟨k4 + 1, r4, by go_num, by omega, Lib.hid (fun hb => by rw [show o4 + (k4 + 1) * 4 = o4 + k4 * 4 + 4 by omega]; exact HR4.out), HB5, HE6⟩, ?_⟩
                       simp [intOf]; omega
                     · have HG := Lib.hid (HFail4.out (by rw [f8]; rfl))
                       clear f8
                       unfold Pn
                       go_wp2_with fail
                       exact ⟨rfl, HNo.out _ HG.out HB5.out⟩)
            · have HE5 := Lib.hid (show r.all Fnc.few = x.fns.all Fnc.few by
                have := hE.out
                rw [List.all_cons, show y.few = true by simp only [Fnc.few, F6.out, F7.out, hp3.out (by omega), hv3.out (by omega)]; rfl, Bool.true_and] at this
                exact this)
              clear hE hp3 hv3
              go_wp2_with fail
              go_roundw
              case rel => exact ⟨k' + 1, r, by go_num, by omega, Lib.hid (by rw [show o' + (k' + 1) * 5 = o' + k' * 5 + 5 by omega]; exact HR.out), hB3, HE5⟩
              case measure => simp [intOf]; omega
end Go.Proofs.YtihmibggonffdaaGreat
