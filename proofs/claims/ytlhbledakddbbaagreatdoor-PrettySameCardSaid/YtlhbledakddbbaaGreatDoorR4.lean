/- How much statements, functions and programs have: the document's count and Long. -/
import Derived.Test.YtlhbledakddbbaaGreatDoorQ4
import Derived.Deep.RegionHeld
import Derived.Deep.RegionHeld3
import Derived.WalkMore
import Derived.Deep.CutBlock
import Derived.Deep.CutRange
import Derived.Test.YtlhbledakddbbaaGreatDoorE2
import Derived.Outline
import Derived.IntWalk
namespace Go.Proofs.YtlhbledakddbbaaGreatDoor
open Go.RowKit

def strsT : List (List UInt8) → Nat
  | [] => 0
  | x :: r => 1 + x.length + strsT r
mutual
def St.total : St → Nat
  | .mk _ nm ns e a g _ _ bd el => 1 + nm.length + e.total + a.total + strsT ns + g.total + bd.total + el.total
def Sts.total : Sts → Nat
  | .nil => 0
  | .cons x r => x.total + r.total
end
theorem wrap_add (a b : Nat) (h : a + b ≤ 1000000) : IntKind.i64.wrap ((a : Int) + (b : Int)) = ((a + b : Nat) : Int) := by
  have : ((a + b : Nat) : Int) = (a : Int) + (b : Int) := by omega
  rw [this]
  exact IntWalk.i64_in _ (by omega)
/-- the count stands at v, so much is to come: it is right as far as M -/
def Cnt (M tot v rest : Nat) : Prop := (v ≤ M ∧ tot = v + rest) ∨ (M < v ∧ M < tot)
theorem rname_nat (l : List UInt8) (M : Nat) (hM : M ≤ 5000) (w : World) : Calls Tryz.prog 42 #[.string (str l), .int .i64 M] w fun e w' => e = .returned (.int .i64 ((1 + min l.length M : Nat) : Int)) ∧ w = w' := by
  have := rname_any (str l) M hM w
  rw [size_str] at this
  exact this
def RCS (n : Nat) : Prop := ∀ l : Sts, l.size < n → ∀ (M : Nat), M ≤ 5000 → ∀ (p : Option Addr) (c N : Nat) (w : World), l.In w N p → N ≤ w.heap.size →
    Calls Tryz.prog 43 #[.slice p l.len c, .int .i64 M] w fun e w' => (∃ v : Nat, e = .returned (.int .i64 v) ∧ v ≤ 4 * M + 3 ∧ Cnt M l.total v 0) ∧ Below w.heap.size w w'
set_option maxRecDepth 100000 in
set_option maxHeartbeats 12800000 in
theorem rcs_step (n : Nat) (ih : RCS n) : RCS (n + 1) := by
  intro l hsz M hM p cl N w h1 hN
  have S1 := Lib.hid h1
  have IH := Lib.hid ih
  have hm1 := h1.1
  have HNN := Lib.hid hN
  have hls : l.size ≤ n := by omega
  clear h1 ih hN hsz
  go_enter Tryz.func43, Tryz.ntmps43
  go_wp2_with fail
  go_loopw [5, 6] (fun t i wr => ∃ (k v : Nat) (r : Sts), t = .int .i64 v ∧ i = .int .i64 k ∧ k + r.len = l.len ∧ r.size ≤ n ∧ Hid (∀ b o, p = some ⟨b, o, none⟩ → l.At w N b o → r.At w N b (o + k * 16)) ∧ v ≤ 4 * M + 3 ∧ Hid (Cnt M l.total v r.total) ∧ Hid (Below w.heap.size w wr)) (fun _ i _ => l.len - (intOf i).toNat)
  case atStart => exact ⟨0, 0, l, rfl, rfl, by omega, hls, Lib.hid fun b o _ h => by rw [Nat.zero_mul]; exact h, by omega, Lib.hid (.inl ⟨by omega, by omega⟩), Lib.hid (Below.refl _ _)⟩
  case round =>
    obtain ⟨k, v, r, rfl, rfl, hk, hrs, hat, hv, hE, hB⟩ := hrel
    cases r with
    | nil =>
      simp only [Sts.len] at hk
      have hge : ¬ k < l.len := by omega
      go_wp2_with fail
      go_ret
      exact ⟨⟨v, rfl, hv, by have := hE.out; simpa only [Sts.total] using this⟩, hB.out⟩
    | cons x r =>
      simp only [Sts.len] at hk
      simp only [Sts.size] at hrs
      have hlt : k < l.len := by omega
      obtain ⟨wo, rfl⟩ : ∃ wo : World, wo = wr := ⟨_, rfl⟩
      by_cases hvM : v ≤ M
      · rcases S1.out.2 with h30 | ⟨b, o, rfl, hb, ha⟩
        · omega
        obtain ⟨hx, hr⟩ := hat.out b o rfl ha
        have HR := Lib.hid hr
        obtain ⟨s, c1, ok1⟩ := St.At.openP (St.At.later (hB.out.mono HNN.out) (Nat.le_trans HNN.out hB.out.size) x b _ hb hx)
        have hbl : b < wo.heap.size := by have := hB.out.size; have := HNN.out; omega
        obtain ⟨A1, hA1⟩ : ∃ A1, x.cells s = A1 := ⟨_, rfl⟩
        have HZ1 := Lib.hid (show A1.size = 16 by rw [← hA1]; rfl)
        have HO1 := Lib.hid (show A1.all (·.oneCell') = true by rw [← hA1]; exact oneSt _ _)
        have F1 := Lib.hid (show wo.rangeAt b (o + k * 16) A1.toList from fun j z hz => c1 j z (by rw [hA1, ← Array.getElem?_toList]; exact hz))
        have HI1 := Lib.hid (infoSt.trans (by rw [HZ1.out]) : (Tryz.prog.info? 54).map (·.size) = some A1.size)
        obtain ⟨W1, hW1⟩ : ∃ W1, wo.alloc (Obj.cells A1 54) = W1 := ⟨_, rfl⟩
        have HW1 := Lib.hid (show Below w.heap.size w W1 by rw [← hW1]; exact hB.out.trans (((Below.refl _ wo).alloc (Nat.le_refl _) _).mono hB.out.size))
        have HWr := Lib.hid (show Below wo.heap.size wo W1 by rw [← hW1]; exact (Below.refl _ wo).alloc (Nat.le_refl _) _)
        have hws : wo.heap.size < W1.heap.size := by rw [← hW1]; simp
        have HXA := Lib.hid (fun w1 hb => cells_later (w0 := W1) (w1 := w1) (b := wo.heap.size) (A := A1) (t := 54) (by rw [← hW1]; exact heap_alloc_new wo _) hb)
        go_wp2_with (first | (refine wpl_load rfl 54 _ rfl b (o + k * 16) rfl A1 _ F1.out Tryz.underlying54 rfl HI1.out ?_) | (refine wpl_store_new rfl 54 _ _ rfl _ A1 _ rfl rfl (by rw [HZ1.out]; rfl) HI1.out HO1.out ?_))
        rw [hW1]
        obtain ⟨kd, nm, ns, e, a, g, lo, hi, bd, el⟩ := x
        have HXC := Lib.hid (show ∀ w1, Below W1.heap.size W1 w1 → ∀ j z, (#[.int .i64 kd, .string (str nm), .slice s.pn ns.length s.cn, .int .i64 e.op, .int .u64 (e.word : Int), .string (str e.name), .slice s.pe e.args.len s.ce, .int .i64 a.op, .int .u64 (a.word : Int), .string (str a.name), .slice s.pa a.args.len s.ca, .slice s.pg g.len s.cg, .int .u64 (lo : Int), .int .u64 (hi : Int), .slice s.pb bd.len s.cb, .slice s.pl el.len s.cl] : Array Value)[j]? = some z → w1.cell? ⟨wo.heap.size, j, none⟩ = some z from fun w1 hb j z hz => HXA.out w1 hb j z (by rw [← hA1]; exact hz))
        simp only [St.size] at hrs
        have HN := Lib.hid (fun w => rname_nat nm M hM w)
        have HE := Lib.hid (fun (w1 : World) (hb : Below wo.heap.size wo w1) => rcount_to _ e (Nat.lt_succ_self _) M hM s.pe s.ce wo.heap.size w1 (ok1.2.1.later hb (Nat.le_refl _)) hb.size)
        have HA := Lib.hid (fun (w1 : World) (hb : Below wo.heap.size wo w1) => rcount_to _ a (Nat.lt_succ_self _) M hM s.pa s.ca wo.heap.size w1 (ok1.2.2.1.later hb (Nat.le_refl _)) hb.size)
        have HOK := Lib.hid ok1
        unfold Ex.val at HE HA
        clear ok1 F1 HZ1 HO1 HI1 HXA hA1 c1 hx hr ha
        have hn1 : 1 + min nm.length M ≤ M + 1 := by omega
        have hc1 : (1 + min nm.length M ≤ M ∧ 1 + nm.length = 1 + min nm.length M) ∨ (M < 1 + min nm.length M ∧ M < 1 + nm.length) := by omega
        generalize 1 + min nm.length M = n1 at HN hn1 hc1
        go_upto_region 6 with fail
        simp only [Act.put]
        go_cut [5] from 25 to 40 (fun s5 wx => ∃ v' : Nat, s5 = .int .i64 v' ∧ v' ≤ 4 * M + 3 ∧ Hid (Cnt M l.total v' (strsT ns + (g.total + (bd.total + (el.total + r.total))))) ∧ Hid (Below wo.heap.size wo wx) ∧ Hid (Below W1.heap.size W1 wx))
        case first =>
          have HS1 : Below wo.heap.size wo W1.drew := HWr.out.drew
          have HS2 : Below W1.heap.size W1 W1.drew := (Below.refl _ _).drew
          refine wp_region_held_drew (S := fun W => Below wo.heap.size wo W ∧ Below W1.heap.size W1 W ∧ W.cell? ⟨wo.heap.size, 1, none⟩ = some (.string (str nm)) ∧ W.cell? ⟨wo.heap.size, 3, none⟩ = some (.int .i64 e.op) ∧ W.cell? ⟨wo.heap.size, 4, none⟩ = some (.int .u64 (e.word : Int)) ∧ W.cell? ⟨wo.heap.size, 5, none⟩ = some (.string (str e.name)) ∧ W.cell? ⟨wo.heap.size, 6, none⟩ = some (.slice s.pe e.args.len s.ce) ∧ W.cell? ⟨wo.heap.size, 7, none⟩ = some (.int .i64 a.op) ∧ W.cell? ⟨wo.heap.size, 8, none⟩ = some (.int .u64 (a.word : Int)) ∧ W.cell? ⟨wo.heap.size, 9, none⟩ = some (.string (str a.name)) ∧ W.cell? ⟨wo.heap.size, 10, none⟩ = some (.slice s.pa a.args.len s.ca)) (by kernel_rfl) ?_ (fun hHeld => ?_)
          · exact ⟨HS1, HS2, HXC.out _ HS2 1 _ rfl, HXC.out _ HS2 3 _ rfl, HXC.out _ HS2 4 _ rfl, HXC.out _ HS2 5 _ rfl, HXC.out _ HS2 6 _ rfl, HXC.out _ HS2 7 _ rfl, HXC.out _ HS2 8 _ rfl, HXC.out _ HS2 9 _ rfl, HXC.out _ HS2 10 _ rfl⟩
          refine wpAnyH_take (i := 0) (oi := { dst := Option.some 25, op := Go.Op.move (Go.Operand.tmp 5), type := 3, pos := "ref.go:432", after := #[], guard := Option.none }) (v := ?_) rfl (by kernel_rfl) (by kernel_rfl) (by kernel_rfl) (fun _ _ _ h => h) (Or.inl ⟨by rfl, ?_⟩) (by assumption) ?_
          rotate_left
          · (intro w hSw; (try dsimp only at hSw); go_simp; try with_reducible rfl)
          try simp only [Act.put, List.setIfInBounds_toArray, List.set_cons_zero, List.set_cons_succ]
          refine wpAnyH_take (i := 1) (oi := { dst := Option.some 26, op := Go.Op.fieldAddr 54 (Go.Operand.tmp 7) 1, type := 0, pos := "ref.go:432", after := #[], guard := Option.none }) (v := ?_) rfl (by kernel_rfl) (by kernel_rfl) (by kernel_rfl) (fun _ _ _ h => h) (Or.inl ⟨by rfl, ?_⟩) (by assumption) ?_
          rotate_left
          · (intro w hSw; (try dsimp only at hSw); go_simp; try with_reducible rfl)
          try simp only [Act.put, List.setIfInBounds_toArray, List.set_cons_zero, List.set_cons_succ]
          refine wpAnyH_take (i := 2) (oi := { dst := Option.some 27, op := Go.Op.load 9 (Go.Operand.tmp 26), type := 9, pos := "ref.go:432", after := #[{ on := 1, ground := Go.Ground.data }], guard := Option.none }) (v := ?_) rfl (by kernel_rfl) (by kernel_rfl) (by kernel_rfl) (fun _ _ _ h => h) (Or.inl ⟨by rfl, ?_⟩) (by assumption) ?_
          rotate_left
          · (intro w hSw; (try dsimp only at hSw); go_simp; try with_reducible rfl)
          try simp only [Act.put, List.setIfInBounds_toArray, List.set_cons_zero, List.set_cons_succ]
          refine wpAnyH_take (i := 3) (oi := { dst := Option.some 28, op := Go.Op.move (Go.Operand.tmp 1), type := 3, pos := "ref.go:432", after := #[], guard := Option.none }) (v := ?_) rfl (by kernel_rfl) (by kernel_rfl) (by kernel_rfl) (fun _ _ _ h => h) (Or.inl ⟨by rfl, ?_⟩) (by assumption) ?_
          rotate_left
          · (intro w hSw; (try dsimp only at hSw); go_simp; try with_reducible rfl)
          try simp only [Act.put, List.setIfInBounds_toArray, List.set_cons_zero, List.set_cons_succ]
          refine wpAnyH_take (i := 6) (oi := { dst := Option.some 31, op := Go.Op.fieldAddr 54 (Go.Operand.tmp 7) 3, type := 0, pos := "ref.go:432", after := #[], guard := Option.none }) (v := ?_) rfl (by kernel_rfl) (by kernel_rfl) (by kernel_rfl) (fun _ _ _ h => h) (Or.inl ⟨by rfl, ?_⟩) (by assumption) ?_
          rotate_left
          · (intro w hSw; (try dsimp only at hSw); go_simp; try with_reducible rfl)
          try simp only [Act.put, List.setIfInBounds_toArray, List.set_cons_zero, List.set_cons_succ]
          refine wpAnyH_take (i := 7) (oi := { dst := Option.some 32, op := Go.Op.load 26 (Go.Operand.tmp 31), type := 26, pos := "ref.go:432", after := #[{ on := 6, ground := Go.Ground.data }], guard := Option.none }) (v := ?_) rfl (by kernel_rfl) (by kernel_rfl) (by kernel_rfl) (fun _ _ _ h => h) (Or.inl ⟨by rfl, ?_⟩) (by assumption) ?_
          rotate_left
          · (intro w hSw; (try dsimp only at hSw); go_simp; try with_reducible rfl)
          try simp only [Act.put, List.setIfInBounds_toArray, List.set_cons_zero, List.set_cons_succ]
          refine wpAnyH_take (i := 8) (oi := { dst := Option.some 33, op := Go.Op.move (Go.Operand.tmp 1), type := 3, pos := "ref.go:432", after := #[], guard := Option.none }) (v := ?_) rfl (by kernel_rfl) (by kernel_rfl) (by kernel_rfl) (fun _ _ _ h => h) (Or.inl ⟨by rfl, ?_⟩) (by assumption) ?_
          rotate_left
          · (intro w hSw; (try dsimp only at hSw); go_simp; try with_reducible rfl)
          try simp only [Act.put, List.setIfInBounds_toArray, List.set_cons_zero, List.set_cons_succ]
          refine wpAnyH_take (i := 11) (oi := { dst := Option.some 36, op := Go.Op.fieldAddr 54 (Go.Operand.tmp 7) 4, type := 0, pos := "ref.go:432", after := #[], guard := Option.none }) (v := ?_) rfl (by kernel_rfl) (by kernel_rfl) (by kernel_rfl) (fun _ _ _ h => h) (Or.inl ⟨by rfl, ?_⟩) (by assumption) ?_
          rotate_left
          · (intro w hSw; (try dsimp only at hSw); go_simp; try with_reducible rfl)
          try simp only [Act.put, List.setIfInBounds_toArray, List.set_cons_zero, List.set_cons_succ]
          refine wpAnyH_take (i := 12) (oi := { dst := Option.some 37, op := Go.Op.load 26 (Go.Operand.tmp 36), type := 26, pos := "ref.go:432", after := #[{ on := 11, ground := Go.Ground.data }], guard := Option.none }) (v := ?_) rfl (by kernel_rfl) (by kernel_rfl) (by kernel_rfl) (fun _ _ _ h => h) (Or.inl ⟨by rfl, ?_⟩) (by assumption) ?_
          rotate_left
          · (intro w hSw; (try dsimp only at hSw); go_simp; try with_reducible rfl)
          try simp only [Act.put, List.setIfInBounds_toArray, List.set_cons_zero, List.set_cons_succ]
          refine wpAnyH_take (i := 13) (oi := { dst := Option.some 38, op := Go.Op.move (Go.Operand.tmp 1), type := 3, pos := "ref.go:432", after := #[], guard := Option.none }) (v := ?_) rfl (by kernel_rfl) (by kernel_rfl) (by kernel_rfl) (fun _ _ _ h => h) (Or.inl ⟨by rfl, ?_⟩) (by assumption) ?_
          rotate_left
          · (intro w hSw; (try dsimp only at hSw); go_simp; try with_reducible rfl)
          try simp only [Act.put, List.setIfInBounds_toArray, List.set_cons_zero, List.set_cons_succ]
          refine wpAnyH_ready (rs := [4]) (by kernel_rfl) (by simp) ?_
          refine AllReadyH.cons (o := { dst := Option.some 29, op := Go.Op.call { callee := Go.Callee.value (Go.Operand.func 42), args := #[Go.Operand.tmp 27, Go.Operand.tmp 28], argTypes := #[9, 3] }, type := 3, pos := "ref.go:432", after := #[{ on := 2, ground := Go.Ground.data }, { on := 3, ground := Go.Ground.data }], guard := Option.none }) rfl (fun K hK => ?_) AllReadyH.nil
          go_simp
          refine (HN.out _).mono ?_
          rintro z w' ⟨rfl, rfl⟩
          refine hK.out _ _ ?_ (fun hHeld => ?_)
          · exact ⟨HS1, HS2, HXC.out _ HS2 1 _ rfl, HXC.out _ HS2 3 _ rfl, HXC.out _ HS2 4 _ rfl, HXC.out _ HS2 5 _ rfl, HXC.out _ HS2 6 _ rfl, HXC.out _ HS2 7 _ rfl, HXC.out _ HS2 8 _ rfl, HXC.out _ HS2 9 _ rfl, HXC.out _ HS2 10 _ rfl⟩
          clear hK K
          try simp only [Act.put, List.setIfInBounds_toArray, List.set_cons_zero, List.set_cons_succ]
          obtain ⟨m1, hme⟩ : ∃ m, m = v + n1 := ⟨_, rfl⟩
          have HM1 := Lib.hid hme
          have hmb1 : m1 ≤ 10010 := by omega
          clear hme
          refine wpAnyH_take (i := 5) (oi := { dst := Option.some 30, op := Go.Op.binOp Go.BinOp.add 3 (Go.Operand.tmp 25) (Go.Operand.tmp 29) 3, type := 3, pos := "ref.go:432", after := #[{ on := 0, ground := Go.Ground.data }, { on := 4, ground := Go.Ground.data }], guard := Option.none }) (v := .int .i64 ((m1 : Nat) : Int)) rfl (by kernel_rfl) (by kernel_rfl) (by kernel_rfl) (fun _ _ _ h => h) (Or.inl ⟨by rfl, ?_⟩) (by assumption) ?_
          · (intro w hSw; have hwr : IntKind.i64.wrap ((v : Int) + (n1 : Int)) = ((m1 : Nat) : Int) := by rw [HM1.out]; exact wrap_add v n1 (by omega))
            (try dsimp only at hSw); go_simp; (try rw [hwr])
          try simp only [Act.put, List.setIfInBounds_toArray, List.set_cons_zero, List.set_cons_succ]
          refine wpAnyH_ready (rs := [9]) (by kernel_rfl) (by simp) ?_
          refine AllReadyH.cons (o := { dst := Option.some 34, op := Go.Op.call { callee := Go.Callee.value (Go.Operand.func 30), args := #[Go.Operand.tmp 32, Go.Operand.tmp 33], argTypes := #[26, 3] }, type := 3, pos := "ref.go:432", after := #[{ on := 7, ground := Go.Ground.data }, { on := 8, ground := Go.Ground.data }, { on := 4, ground := Go.Ground.chain }], guard := Option.none }) rfl (fun K hK => ?_) AllReadyH.nil
          go_simp
          refine (HE.out _ HS1).mono ?_
          rintro z w2 ⟨⟨n2, rfl, hn2, hc2⟩, hB2⟩
          replace HS2 := HS2.trans (hB2.mono HS2.size)
          replace HS1 := HS1.trans (hB2.mono HS1.size)
          clear hB2
          refine hK.out _ _ ?_ (fun hHeld => ?_)
          · exact ⟨HS1, HS2, HXC.out _ HS2 1 _ rfl, HXC.out _ HS2 3 _ rfl, HXC.out _ HS2 4 _ rfl, HXC.out _ HS2 5 _ rfl, HXC.out _ HS2 6 _ rfl, HXC.out _ HS2 7 _ rfl, HXC.out _ HS2 8 _ rfl, HXC.out _ HS2 9 _ rfl, HXC.out _ HS2 10 _ rfl⟩
          clear hK K
          try simp only [Act.put, List.setIfInBounds_toArray, List.set_cons_zero, List.set_cons_succ]
          obtain ⟨m2, hme⟩ : ∃ m, m = m1 + n2 := ⟨_, rfl⟩
          have HM2 := Lib.hid hme
          have hmb2 : m2 ≤ 20020 := by omega
          clear hme
          refine wpAnyH_take (i := 10) (oi := { dst := Option.some 35, op := Go.Op.binOp Go.BinOp.add 3 (Go.Operand.tmp 30) (Go.Operand.tmp 34) 3, type := 3, pos := "ref.go:432", after := #[{ on := 5, ground := Go.Ground.data }, { on := 9, ground := Go.Ground.data }], guard := Option.none }) (v := .int .i64 ((m2 : Nat) : Int)) rfl (by kernel_rfl) (by kernel_rfl) (by kernel_rfl) (fun _ _ _ h => h) (Or.inl ⟨by rfl, ?_⟩) (by assumption) ?_
          · (intro w hSw; have hwr : IntKind.i64.wrap ((m1 : Int) + (n2 : Int)) = ((m2 : Nat) : Int) := by rw [HM2.out]; exact wrap_add m1 n2 (by omega))
            (try dsimp only at hSw); go_simp; (try rw [hwr])
          try simp only [Act.put, List.setIfInBounds_toArray, List.set_cons_zero, List.set_cons_succ]
          refine wpAnyH_ready (rs := [14]) (by kernel_rfl) (by simp) ?_
          refine AllReadyH.cons (o := { dst := Option.some 39, op := Go.Op.call { callee := Go.Callee.value (Go.Operand.func 30), args := #[Go.Operand.tmp 37, Go.Operand.tmp 38], argTypes := #[26, 3] }, type := 3, pos := "ref.go:432", after := #[{ on := 12, ground := Go.Ground.data }, { on := 13, ground := Go.Ground.data }, { on := 9, ground := Go.Ground.chain }], guard := Option.none }) rfl (fun K hK => ?_) AllReadyH.nil
          go_simp
          refine (HA.out _ HS1).mono ?_
          rintro z w3 ⟨⟨n3, rfl, hn3, hc3⟩, hB3⟩
          replace HS2 := HS2.trans (hB3.mono HS2.size)
          replace HS1 := HS1.trans (hB3.mono HS1.size)
          clear hB3
          refine hK.out _ _ ?_ (fun hHeld => ?_)
          · exact ⟨HS1, HS2, HXC.out _ HS2 1 _ rfl, HXC.out _ HS2 3 _ rfl, HXC.out _ HS2 4 _ rfl, HXC.out _ HS2 5 _ rfl, HXC.out _ HS2 6 _ rfl, HXC.out _ HS2 7 _ rfl, HXC.out _ HS2 8 _ rfl, HXC.out _ HS2 9 _ rfl, HXC.out _ HS2 10 _ rfl⟩
          clear hK K
          try simp only [Act.put, List.setIfInBounds_toArray, List.set_cons_zero, List.set_cons_succ]
          obtain ⟨m3, hme⟩ : ∃ m, m = m2 + n3 := ⟨_, rfl⟩
          have HM3 := Lib.hid hme
          have hmb3 : m3 ≤ 30030 := by omega
          clear hme
          refine wpAnyH_take (i := 15) (oi := { dst := Option.some 40, op := Go.Op.binOp Go.BinOp.add 3 (Go.Operand.tmp 35) (Go.Operand.tmp 39) 3, type := 3, pos := "ref.go:432", after := #[{ on := 10, ground := Go.Ground.data }, { on := 14, ground := Go.Ground.data }], guard := Option.none }) (v := .int .i64 ((m3 : Nat) : Int)) rfl (by kernel_rfl) (by kernel_rfl) (by kernel_rfl) (fun _ _ _ h => h) (Or.inl ⟨by rfl, ?_⟩) (by assumption) ?_
          · (intro w hSw; have hwr : IntKind.i64.wrap ((m2 : Int) + (n3 : Int)) = ((m3 : Nat) : Int) := by rw [HM3.out]; exact wrap_add m2 n3 (by omega))
            (try dsimp only at hSw); go_simp; (try rw [hwr])
          try simp only [Act.put, List.setIfInBounds_toArray, List.set_cons_zero, List.set_cons_succ]
          refine wpAnyH_take (i := 16) (oi := { dst := Option.some 5, op := Go.Op.assign (Go.Operand.tmp 40), type := 3, pos := "ref.go:432", after := #[{ on := 15, ground := Go.Ground.data }, { on := 14, ground := Go.Ground.chain }, { on := 0, ground := Go.Ground.phase }, { on := 1, ground := Go.Ground.phase }, { on := 2, ground := Go.Ground.phase }, { on := 3, ground := Go.Ground.phase }, { on := 4, ground := Go.Ground.phase }, { on := 5, ground := Go.Ground.phase }, { on := 6, ground := Go.Ground.phase }, { on := 7, ground := Go.Ground.phase }, { on := 8, ground := Go.Ground.phase }, { on := 9, ground := Go.Ground.phase }, { on := 10, ground := Go.Ground.phase }, { on := 11, ground := Go.Ground.phase }, { on := 12, ground := Go.Ground.phase }, { on := 13, ground := Go.Ground.phase }, { on := 14, ground := Go.Ground.phase }, { on := 15, ground := Go.Ground.phase }], guard := Option.none }) (v := ?_) rfl (by kernel_rfl) (by kernel_rfl) (by kernel_rfl) (fun _ _ _ h => h) (Or.inl ⟨by rfl, ?_⟩) (by assumption) ?_
          rotate_left
          · (intro w hSw; (try dsimp only at hSw); go_simp; try with_reducible rfl)
          try simp only [Act.put, List.setIfInBounds_toArray, List.set_cons_zero, List.set_cons_succ]
          refine wpAnyH_done (by kernel_rfl) ?_ _
          go_wp2_with fail
          go_meet
          exact ⟨m3, rfl, by have := HM1.out; have := HM2.out; have := HM3.out; omega, Lib.hid (by have := hE.out; have := HM1.out; have := HM2.out; have := HM3.out; unfold Cnt at *; simp only [Sts.total, St.total] at *; omega), Lib.hid HS1, Lib.hid HS2⟩
        case rest =>
          obtain ⟨v', rfl, hv', hE', HS1, HS2⟩ := hcut
          go_upto_block 2 with fail
          go_cut [5, 8] from 41 to 61 (fun s5 s8 wx => ∃ v2 j : Nat, s5 = .int .i64 v2 ∧ s8 = .int .i64 j ∧ v2 ≤ 4 * M + 3 ∧ Hid (Cnt M l.total v2 (g.total + (bd.total + (el.total + r.total)))) ∧ Hid (Below W1.heap.size W1 wx))
          case first =>
            go_wp2_with fail
            go_loopw [5, 8] (fun t i wx => ∃ (ds rs : List (List UInt8)) (v2 : Nat), t = .int .i64 v2 ∧ i = .int .i64 ds.length ∧ Hid (ns = ds ++ rs) ∧ ds.length + rs.length = ns.length ∧ v2 ≤ 4 * M + 3 ∧ Hid (Cnt M l.total v2 (strsT rs + (g.total + (bd.total + (el.total + r.total))))) ∧ Hid (Below W1.heap.size W1 wx)) (fun _ i _ => ns.length - (intOf i).toNat)
            case atStart => exact ⟨[], ns, v', rfl, rfl, Lib.hid rfl, by simp, hv', hE', HS2⟩
            case round =>
              obtain ⟨ds, rs, v2, rfl, rfl, EN, hk2, hv2, hE2, HB2⟩ := hrel
              have gx2 : wr.cell? ⟨wo.heap.size, 2, none⟩ = some (.slice s.pn ns.length s.cn) := HXC.out _ HB2.out 2 _ rfl
              have hm2 : ns.length ≤ 140737488355328 := HOK.out.1.1
              cases rs with
              | nil =>
                simp only [List.length_nil] at hk2
                have hge2 : ¬ ds.length < ns.length := by omega
                go_wp2_with fail
                go_meet
                exact ⟨v2, _, rfl, rfl, hv2, Lib.hid (by have := hE2.out; simpa [strsT] using this), HB2⟩
              | cons y rs =>
                simp only [List.length_cons] at hk2
                have hlt2 : ds.length < ns.length := by omega
                by_cases hM2 : v2 ≤ M
                · rcases (show RowIn wo.heap.size (StrAt wo) 1 ns s.pn from HOK.out.1).2 with h30 | ⟨b3, o3, hp3, hb3, ha3⟩
                  · omega
                  rw [EN.out] at ha3
                  have hb3' : b3 < W1.heap.size := by omega
                  have g3 : wr.cell? ⟨b3, o3 + ds.length, none⟩ = some (.string (str y)) := (HB2.out.cell hb3').trans ((HWr.out.cell hb3).trans (by have := (Row.drop _ _ _ ha3).1; rw [Nat.mul_one] at this; exact this))
                  rw [hp3] at gx2
                  have HN2 := Lib.hid (fun w => rname_nat y M hM w)
                  have hn2 : 1 + min y.length M ≤ M + 1 := by omega
                  have hc2 : (1 + min y.length M ≤ M ∧ 1 + y.length = 1 + min y.length M) ∨ (M < 1 + min y.length M ∧ M < 1 + y.length) := by omega
                  generalize 1 + min y.length M = n2 at HN2 hn2 hc2
                  obtain ⟨m2, hme⟩ : ∃ m, m = v2 + n2 := ⟨_, rfl⟩
                  have HM2 := Lib.hid hme
                  have hwr : IntKind.i64.wrap ((v2 : Int) + (n2 : Int)) = (m2 : Int) := by rw [hme]; exact wrap_add v2 n2 (by omega)
                  have hw2 : (v2 : Int) + (n2 : Int) = (m2 : Int) := by omega
                  have HH := Lib.hid hp3
                  have HE3 := Lib.hid (show Cnt M l.total m2 (strsT rs + (g.total + (bd.total + (el.total + r.total)))) by have := hE2.out; unfold Cnt at *; simp only [strsT] at this; omega)
                  have hmb : m2 ≤ 4 * M + 3 := by omega
                  clear ha3 hme hp3 hc2
                  go_wp2_with fail
                  refine (HN2.out _).mono ?_
                  rintro z w' ⟨rfl, rfl⟩
                  go_wp2_with fail
                  go_roundw
                  case rel => exact ⟨ds ++ [y], rs, m2, rfl, by rw [List.length_append]; go_num, Lib.hid (by rw [EN.out]; simp), by simp; omega, hmb, HE3, HB2⟩
                  case measure => simp [intOf]; omega
                · go_wp2_with fail
                  go_meet
                  exact ⟨v2, _, rfl, rfl, hv2, Lib.hid (by have := hE2.out; unfold Cnt at *; simp only [strsT] at this; omega), HB2⟩
          case rest =>
            obtain ⟨v2, j2, rfl, rfl, hv2, hE2, HS3⟩ := hcut
            clear hv' hE' HS1 HS2
            go_upto_block 4 with fail
            go_cut [5, 9] from 62 to 82 (fun s5 s9 wx => ∃ v3 j : Nat, s5 = .int .i64 v3 ∧ s9 = .int .i64 j ∧ v3 ≤ 4 * M + 3 ∧ Hid (Cnt M l.total v3 (bd.total + (el.total + r.total))) ∧ Hid (Below W1.heap.size W1 wx))
            case first =>
              go_wp2_with fail
              go_loopw [5, 9] (fun t i wx => ∃ (j v3 : Nat) (y : Exs), t = .int .i64 v3 ∧ i = .int .i64 j ∧ j + y.len = g.len ∧ Hid (∀ b o, s.pg = some ⟨b, o, none⟩ → g.At wo wo.heap.size b o → y.At wo wo.heap.size b (o + j * 4)) ∧ v3 ≤ 4 * M + 3 ∧ Hid (Cnt M l.total v3 (y.total + (bd.total + (el.total + r.total)))) ∧ Hid (Below W1.heap.size W1 wx)) (fun _ i _ => g.len - (intOf i).toNat)
              case atStart => exact ⟨0, v2, g, rfl, rfl, by omega, Lib.hid fun b o _ h => by rw [Nat.zero_mul]; exact h, hv2, hE2, HS3⟩
              case round =>
                obtain ⟨j, v3, y, rfl, rfl, hk3, hat3, hv3, hE3, HB3⟩ := hrel
                have gx3 : wr.cell? ⟨wo.heap.size, 11, none⟩ = some (.slice s.pg g.len s.cg) := HXC.out _ HB3.out 11 _ rfl
                have hm3 : g.len ≤ 140737488355328 := HOK.out.2.2.2.1.1
                cases y with
                | nil =>
                  simp only [Exs.len] at hk3
                  have hge3 : ¬ j < g.len := by omega
                  go_wp2_with fail
                  go_meet
                  exact ⟨v3, _, rfl, rfl, hv3, Lib.hid (by have := hE3.out; simpa [Exs.total] using this), HB3⟩
                | cons z y =>
                  simp only [Exs.len] at hk3
                  have hlt3 : j < g.len := by omega
                  by_cases hM3 : v3 ≤ M
                  · rcases (show g.In wo wo.heap.size s.pg from HOK.out.2.2.2.1).2 with h30 | ⟨b3, o3, hp3, hb3, ha3⟩
                    · omega
                    obtain ⟨hz, hzr⟩ := hat3.out b3 o3 hp3 ha3
                    have hBo : Below wo.heap.size wo wr := HWr.out.trans (HB3.out.mono HWr.out.size)
                    obtain ⟨q, cq, d0, d1, d2, d3, hokz⟩ := (Ex.At.later hBo hBo.size z b3 _ hb3 hz).open'
                    rw [hp3] at gx3
                    have HC3 := Lib.hid (rcount_to _ z (Nat.lt_succ_self _) M hM q cq wr.heap.size wr hokz (Nat.le_refl _))
                    unfold Ex.val at HC3
                    have HZR := Lib.hid hzr
                    have HH := Lib.hid hp3
                    clear ha3 hz hzr hokz hp3 hat3 hBo
                    go_wp2_with fail
                    refine HC3.out.mono ?_
                    rintro e3 w3 ⟨⟨n3, rfl, hn3, hc3⟩, hB4⟩
                    obtain ⟨m3, hme⟩ : ∃ m, m = v3 + n3 := ⟨_, rfl⟩
                    have hwr : IntKind.i64.wrap ((v3 : Int) + (n3 : Int)) = (m3 : Int) := by rw [hme]; exact wrap_add v3 n3 (by omega)
                    have hw3 : (v3 : Int) + (n3 : Int) = (m3 : Int) := by omega
                    have HE4 := Lib.hid (show Cnt M l.total m3 (y.total + (bd.total + (el.total + r.total))) by have := hE3.out; unfold Cnt at *; simp only [Exs.total] at this; omega)
                    have hmb : m3 ≤ 4 * M + 3 := by omega
                    have HB5 := Lib.hid (HB3.out.trans (hB4.mono HB3.out.size))
                    clear hB4 hme hc3 HC3 d0 d1 d2 d3
                    go_wp2_with fail
                    go_roundw
                    case rel => exact ⟨j + 1, m3, y, rfl, by go_num, by omega, Lib.hid fun b o hbo _ => by have := HH.out.symm.trans hbo; cases this; rw [show o3 + (j + 1) * 4 = o3 + j * 4 + 4 by omega]; exact HZR.out, hmb, HE4, HB5⟩
                    case measure => simp [intOf]; omega
                  · go_wp2_with fail
                    go_meet
                    exact ⟨v3, _, rfl, rfl, hv3, Lib.hid (by have := hE3.out; unfold Cnt at *; simp only [Exs.total] at this; omega), HB3⟩
            case rest =>
              obtain ⟨v3, j3, rfl, rfl, hv3, hE3, HS4⟩ := hcut
              clear hv2 hE2 HS3
              have gx14 : wc.cell? ⟨wo.heap.size, 14, none⟩ = some (.slice s.pb bd.len s.cb) := HXC.out _ HS4.out 14 _ rfl
              have gx15 : wc.cell? ⟨wo.heap.size, 15, none⟩ = some (.slice s.pl el.len s.cl) := HXC.out _ HS4.out 15 _ rfl
              have HBd := Lib.hid (fun (K : Nat) (hK : K ≤ 5000) (w1 : World) (hb : Below wo.heap.size wo w1) => IH.out bd (by omega) K hK s.pb s.cb wo.heap.size w1 (Sts.In.later HOK.out.2.2.2.2.1 hb (Nat.le_refl _)) hb.size)
              have HEl := Lib.hid (fun (K : Nat) (hK : K ≤ 5000) (w1 : World) (hb : Below wo.heap.size wo w1) => IH.out el (by omega) K hK s.pl s.cl wo.heap.size w1 (Sts.In.later HOK.out.2.2.2.2.2.1 hb (Nat.le_refl _)) hb.size)
              have HBc := Lib.hid (HWr.out.trans (HS4.out.mono HWr.out.size))
              by_cases h3 : v3 ≤ M
              · have hsub : ((M - v3 : Nat) : Int) = (M : Int) - (v3 : Int) := by omega
                have HC := Lib.hid (HBd.out (M - v3) (by omega) wc HBc.out)
                rw [hsub] at HC
                have hw0 : IntKind.i64.wrap ((M : Int) - (v3 : Int)) = (M : Int) - (v3 : Int) := IntWalk.i64_in _ (by omega)
                go_wp2_with fail
                refine HC.out.mono ?_
                rintro e4 w4 ⟨⟨n4, rfl, hn4, hc4⟩, hB4⟩
                obtain ⟨v4, hme⟩ : ∃ m, m = v3 + n4 := ⟨_, rfl⟩
                have hwr4 : IntKind.i64.wrap ((v3 : Int) + (n4 : Int)) = (v4 : Int) := by rw [hme]; exact wrap_add v3 n4 (by omega)
                have hw4 : (v3 : Int) + (n4 : Int) = (v4 : Int) := by omega
                have hv4 : v4 ≤ 4 * M + 3 := by omega
                have HE4 := Lib.hid (show Cnt M l.total v4 (el.total + r.total) by have := hE3.out; unfold Cnt at *; omega)
                have HB4 := Lib.hid (HBc.out.trans (hB4.mono HBc.out.size))
                have gy15 : w4.cell? ⟨wo.heap.size, 15, none⟩ = some (.slice s.pl el.len s.cl) := HXC.out _ (HS4.out.trans (hB4.mono HS4.out.size)) 15 _ rfl
                clear hB4 hme hc4 HC hw0 hsub gx14 gx15
                by_cases h4 : v4 ≤ M
                · have hsub : ((M - v4 : Nat) : Int) = (M : Int) - (v4 : Int) := by omega
                  have HC := Lib.hid (HEl.out (M - v4) (by omega) w4 HB4.out)
                  rw [hsub] at HC
                  have hw0 : IntKind.i64.wrap ((M : Int) - (v4 : Int)) = (M : Int) - (v4 : Int) := IntWalk.i64_in _ (by omega)
                  go_wp2_with fail
                  refine HC.out.mono ?_
                  rintro e5 w5 ⟨⟨n5, rfl, hn5, hc5⟩, hB5⟩
                  obtain ⟨v5, hme⟩ : ∃ m, m = v4 + n5 := ⟨_, rfl⟩
                  have hwr5 : IntKind.i64.wrap ((v4 : Int) + (n5 : Int)) = (v5 : Int) := by rw [hme]; exact wrap_add v4 n5 (by omega)
                  have hw5 : (v4 : Int) + (n5 : Int) = (v5 : Int) := by omega
                  have hv5 : v5 ≤ 4 * M + 3 := by omega
                  have HE5 := Lib.hid (show Cnt M l.total v5 r.total by have := HE4.out; unfold Cnt at *; omega)
                  have HB5 := Lib.hid (hB.out.trans ((HB4.out.trans (hB5.mono HB4.out.size)).mono hB.out.size))
                  clear hB5 hme hc5 HC hw0 hsub
                  go_wp2_with fail
                  go_roundw
                  case rel => exact ⟨k + 1, v5, r, rfl, by go_num, by omega, by omega, Lib.hid fun b' o' hbo _ => by cases hbo; rw [show o + (k + 1) * 16 = o + k * 16 + 16 by omega]; exact HR.out, hv5, HE5, HB5⟩
                  case measure => simp [intOf]; omega
                · have HE5 := Lib.hid (show Cnt M l.total v4 r.total by have := HE4.out; unfold Cnt at *; omega)
                  have HB5 := Lib.hid (hB.out.trans (HB4.out.mono hB.out.size))
                  go_wp2_with fail
                  go_roundw
                  case rel => exact ⟨k + 1, v4, r, rfl, by go_num, by omega, by omega, Lib.hid fun b' o' hbo _ => by cases hbo; rw [show o + (k + 1) * 16 = o + k * 16 + 16 by omega]; exact HR.out, hv4, HE5, HB5⟩
                  case measure => simp [intOf]; omega
              · have HE5 := Lib.hid (show Cnt M l.total v3 r.total by have := hE3.out; unfold Cnt at *; omega)
                have HB5 := Lib.hid (hB.out.trans (HBc.out.mono hB.out.size))
                go_wp2_with fail
                go_roundw
                case rel => exact ⟨k + 1, v3, r, rfl, by go_num, by omega, by omega, Lib.hid fun b' o' hbo _ => by cases hbo; rw [show o + (k + 1) * 16 = o + k * 16 + 16 by omega]; exact HR.out, hv3, HE5, HB5⟩
                case measure => simp [intOf]; omega
      · go_wp2_with fail
        go_ret
        exact ⟨⟨v, rfl, hv, by have := hE.out; unfold Cnt at *; omega⟩, hB.out⟩
theorem rcs_to : ∀ n, RCS n
  | 0 => fun _ h => absurd h (Nat.not_lt_zero _)
  | n + 1 => rcs_step n (rcs_to n)
theorem count_any (l : Sts) (M : Nat) (hM : M ≤ 5000) (p : Option Addr) (c N : Nat) (w : World) (h : l.In w N p) (hN : N ≤ w.heap.size) :
    Calls Tryz.prog 43 #[.slice p l.len c, .int .i64 M] w fun e w' => (∃ v : Nat, e = .returned (.int .i64 v) ∧ v ≤ 4 * M + 3 ∧ Cnt M l.total v 0) ∧ Below w.heap.size w w' :=
  rcs_to _ l (Nat.lt_succ_self _) M hM p c N w h hN
end Go.Proofs.YtlhbledakddbbaaGreatDoor
