/- E2, Q1, Q2, Q3, Q0, Q4, A5, A6, A7, F1, A8, F2, F3 as one. -/
import Derived.Lib.Strings
import Derived.StillTailTactics
import Derived.Deep.MidRow
import Derived.Deep.RegionHeld3
import Derived.Lib.Join
import Derived.Lib.ItoaMem
import Derived.Lib.ItoaWalk
import Derived.Lib.Walk
import Derived.BigCall
import Derived.BigGuard
import Derived.Lib.Slices
import Derived.Test.YtlhbledakddbbaaGreatDoorZcA
/- How much an expression has: the document's countExpr, LongExpr. -/
namespace Go.Proofs.YtlhbledakddbbaaGreatDoor
open Go.RowKit

mutual
def Ex.total : Ex → Nat
  | .mk _ _ nm a => 1 + nm.length + a.total
def Exs.total : Exs → Nat
  | .nil => 0
  | .cons x r => x.total + r.total
end
theorem rname_any (s : ByteArray) (M : Nat) (hM : M ≤ 5000) (w : World) : Calls Tryz.prog 42 #[.string s, .int .i64 M] w fun e w' => e = .returned (.int .i64 ((1 + min s.size M : Nat) : Int)) ∧ w = w' := by
  have h1 : ((1 + min s.size M : Nat) : Int) = 1 + min (s.size : Int) (M : Int) := by omega
  have h2 : IntKind.i64.wrap (1 + min (s.size : Int) (M : Int)) = 1 + min (s.size : Int) (M : Int) := by simp [IntKind.wrap, IntKind.bits, IntKind.signed]; omega
  rw [h1]
  go_enter Tryz.func42, Tryz.ntmps42
  go_wp2_with fail
  go_ret
  exact ⟨rfl, rfl⟩
def RCountTo (n : Nat) : Prop := ∀ (x : Ex), x.size < n → ∀ (M : Nat), M ≤ 5000 → ∀ (p : Option Addr) (c N : Nat) (w : World), x.Ok w N p → N ≤ w.heap.size →
    Calls Tryz.prog 30 #[x.val p c, .int .i64 M] w fun e w' => (∃ v : Nat, e = .returned (.int .i64 v) ∧ v ≤ M + 1 ∧ ((v ≤ M ∧ x.total = v) ∨ (M < v ∧ M < x.total))) ∧ Below w.heap.size w w'

set_option maxHeartbeats 3200000 in
theorem rcount_step (n : Nat) (ih : RCountTo n) : RCountTo (n + 1) := by
  intro x hxs M hM p c N w hx hN
  have IH := Lib.hid ih
  clear ih
  obtain ⟨w1, hw1⟩ : ∃ w1, w.alloc (.cells #[.int .i64 x.op, .int .u64 (x.word : Int), .string (str x.name), .slice p x.args.len c] 26) = w1 := ⟨_, rfl⟩
  have hB1 : Below w.heap.size w w1 := by rw [← hw1]; exact (Below.refl _ _).alloc (Nat.le_refl _) _
  have e0 : w1.heap[w.heap.size]? = some (.cells #[.int .i64 x.op, .int .u64 (x.word : Int), .string (str x.name), .slice p x.args.len c] 26 (0, 0)) := by rw [← hw1]; exact heap_alloc_new w _
  have hOk1 := (hx.later (hB1.mono hN) (Nat.le_trans hN hB1.size)).1
  have HB1 := Lib.hid hB1
  have HE0 := Lib.hid e0
  have hd : x.total = 1 + x.name.length + x.args.total := by obtain ⟨op, wd, nm, ar⟩ := x; rw [Ex.total]; rfl
  have hsz : x.args.size + 1 = x.size := by obtain ⟨op, wd, nm, ar⟩ := x; rw [Ex.size]; rfl
  have hlz : w.heap.size < w1.heap.size := lt_of_block e0
  have c2 : w1.cell? ⟨w.heap.size, 2, none⟩ = some (.string (str x.name)) := by simp [World.cell?, e0]
  have HN := Lib.hid (fun w => rname_any (str x.name) M hM w)
  have hns := size_str x.name
  rw [hns] at HN
  clear hns
  unfold Ex.val
  generalize x.args = l at hOk1 hsz hw1 HE0 hd ⊢
  generalize x.total = tot at hd ⊢
  clear e0 hB1
  obtain ⟨hm, hs⟩ := hOk1
  have hstart : ∃ b o, (l.len = 0 ∨ p = some ⟨b, o, none⟩) ∧ b < w1.heap.size ∧ l.At w1 w1.heap.size b o := by
    rcases hs with h0 | ⟨b, o, hp, hb, ha⟩
    · exact ⟨0, 0, .inl h0, by omega, by cases l with | nil => trivial | cons => simp [Exs.len] at h0⟩
    · exact ⟨b, o, .inr hp, hb, ha⟩
  obtain ⟨b, o, hp, hb, ha⟩ := hstart
  have HB := Lib.hid hb
  go_enter Tryz.func30, Tryz.ntmps30
  go_wp2_with fail
  refine (HN.out _).mono ?_
  rintro e wq ⟨rfl, rfl⟩
  have hn0 : 1 + min x.name.length M ≤ M + 1 := by omega
  have hi0 : (1 + min x.name.length M ≤ M ∧ tot = 1 + min x.name.length M + l.total) ∨ (M < 1 + min x.name.length M ∧ M < tot) := by omega
  generalize 1 + min x.name.length M = v0 at hn0 hi0 ⊢
  clear hd HN
  go_wp2_with fail
  go_loopw [5, 6] (fun d i wr => ∃ (k v : Nat) (r : Exs), d = .int .i64 v ∧ i = .int .i64 k ∧ k + r.len = l.len ∧ r.size ≤ n ∧ Hid (r.At w1 w1.heap.size b (o + k * 4)) ∧ v ≤ M + 1 ∧ Hid ((v ≤ M ∧ tot = v + r.total) ∨ (M < v ∧ M < tot)) ∧ Hid (Below w1.heap.size w1 wr)) (fun _ i _ => l.len - (intOf i).toNat)
  case atStart => exact ⟨0, v0, l, rfl, rfl, by omega, by omega, Lib.hid (by rw [Nat.zero_mul]; exact ha), hn0, Lib.hid hi0, Lib.hid (Below.refl _ _)⟩
  case round =>
    obtain ⟨k, v, r, rfl, rfl, hk, hrs, hr, hv, hE, hBr⟩ := hrel
    have c3 : wr.cell? ⟨w.heap.size, 3, none⟩ = some (.slice p l.len c) := by
      have := (hBr.out.block _ (lt_of_block HE0.out)).trans HE0.out
      simp [World.cell?, this]
    cases r with
    | nil =>
      simp only [Exs.len] at hk
      have hge : ¬ k < l.len := by omega
      go_wp2_with fail
      go_ret
      exact ⟨⟨v, rfl, hv, by have := hE.out; simp only [Exs.total] at this; omega⟩, HB1.out.trans (hBr.out.mono (by omega))⟩
    | cons y r =>
      obtain ⟨hy, hr'⟩ := hr.out
      simp only [Exs.len] at hk
      simp only [Exs.size] at hrs
      have hlt : k < l.len := by omega
      by_cases hvM : v ≤ M
      · rcases hp with h0 | rfl
        · omega
        have hyr := Ex.At.later hBr.out hBr.out.size y b (o + k * 4) HB.out hy
        obtain ⟨q, cq, d0, d1, d2, d3, hok⟩ := hyr.open
        have HC := Lib.hid (IH.out y (by omega) (M - v) (by omega) q cq wr.heap.size wr hok (Nat.le_refl _))
        have hsub : ((M - v : Nat) : Int) = (M : Int) - (v : Int) := by omega
        rw [hsub] at HC
        have hw0 : IntKind.i64.wrap ((M : Int) - (v : Int)) = (M : Int) - (v : Int) := by simp [IntKind.wrap, IntKind.bits, IntKind.signed]; omega
        have HR := Lib.hid hr'
        unfold Ex.val at HC
        clear hy hr' hr hyr hok
        go_wp2_with fail
        refine HC.out.mono ?_
        rintro e w2 ⟨⟨u, rfl, hu, hcase⟩, hB2⟩
        have HB2 := Lib.hid (hBr.out.trans (hB2.mono hBr.out.size))
        have HE2 := Lib.hid (show (v + u ≤ M ∧ tot = v + u + r.total) ∨ (M < v + u ∧ M < tot) by have := hE.out; simp only [Exs.total] at this; omega)
        have hadd : ((v + u : Nat) : Int) = (v : Int) + (u : Int) := by omega
        have hw1' : IntKind.i64.wrap ((v : Int) + (u : Int)) = (v : Int) + (u : Int) := by simp [IntKind.wrap, IntKind.bits, IntKind.signed]; omega
        clear hB2 HC hcase
        go_wp2_with fail
        go_roundw
        case rel => exact ⟨k + 1, v + u, r, by rw [hadd], by go_num, by omega, by omega, Lib.hid (by rw [show o + (k + 1) * 4 = o + k * 4 + 4 by omega]; exact HR.out), by omega, HE2, HB2⟩
        case measure => simp [intOf]; omega
      · go_wp2_with fail
        go_ret
        exact ⟨⟨v, rfl, hv, by have := hE.out; omega⟩, HB1.out.trans (hBr.out.mono (by omega))⟩
theorem rcount_to : ∀ n, RCountTo n
  | 0 => fun _ h => absurd h (Nat.not_lt_zero _)
  | n + 1 => rcount_step n (rcount_to n)

end Go.Proofs.YtlhbledakddbbaaGreatDoor
/- Two rows are the same: slices.Equal, and the document's. -/
namespace Go.Proofs.YtlhbledakddbbaaGreatDoor
open Go.RowKit

theorem str_beq_eq (a : List UInt8) : ((str a).toList == (str a).toList) = true := by simp
end Go.Proofs.YtlhbledakddbbaaGreatDoor
/- Two expressions are the same: the loops. -/
namespace Go.Proofs.YtlhbledakddbbaaGreatDoor
open Go.RowKit

end Go.Proofs.YtlhbledakddbbaaGreatDoor
/- Two expressions are the same. -/
namespace Go.Proofs.YtlhbledakddbbaaGreatDoor
open Go.RowKit

end Go.Proofs.YtlhbledakddbbaaGreatDoor
/- A whole struct loaded, and laid into a block of its own, in one step. -/
namespace Go.Proofs.YtlhbledakddbbaaGreatDoor
open Go.RowKit

theorem setCells_new (w : World) (t : TypeId) : ∀ (vs pre suf : List Value), suf.length = vs.length →
    (w.alloc (.cells (pre ++ suf).toArray t)).setCells w.heap.size pre.length vs = w.alloc (.cells (pre ++ vs).toArray t)
  | [], pre, suf, h => by
    have : suf = [] := List.eq_nil_of_length_eq_zero h
    subst this; rfl
  | v :: vs, pre, [], h => by simp at h
  | v :: vs, pre, x :: suf, h => by
    rw [World.setCells]
    have h1 : (w.alloc (.cells (pre ++ x :: suf).toArray t)).setCell ⟨w.heap.size, pre.length, none⟩ v = w.alloc (.cells ((pre ++ [v]) ++ suf).toArray t) := by
      rw [World.setCell_alloc_at _ _ _ _ _ rfl]
      congr 2
      simp
    rw [h1]
    have := setCells_new w t vs (pre ++ [v]) suf (by simpa using h)
    simp only [List.length_append, List.length_cons, List.length_nil] at this
    rw [this]
    simp
theorem wpl_load {P : Program} {ops : Array Oper} {rest : List Oper} {op : Oper} {a : Act} {w : World} {Q : Exit → Act → World → Prop} (hgd : op.guard = none) (ty : TypeId) (x : Operand) (ho : op.op = .load ty x)
    (b o : Nat) (hx : a.eval x = .pointer (some ⟨b, o, none⟩)) (A : Array Value) (d : TypeDesc) (hc : w.rangeAt b o A.toList)
    (hu : P.underlying ty = some d) (hd : d.isRow = true) (hi : (P.info? ty).map (·.size) = some A.size)
    (h : wpList P ops Q rest (a.put op.dst (.agg A)) w) : wpList P ops Q (op :: rest) a w :=
  wpList_load_mid hgd ty x ho b o hx A.toList d hc hu hd (by rw [hi]; simp) (by simpa using h)
theorem wpl_store_new {P : Program} {ops : Array Oper} {rest : List Oper} {op : Oper} {a : Act} {w : World} {Q : Exit → Act → World → Prop} (hgd : op.guard = none) (ty : TypeId) (x y : Operand) (ho : op.op = .store ty x y)
    (Z A : Array Value) (t : TypeId) (hx : a.eval x = .pointer (some ⟨w.heap.size, 0, none⟩)) (hy : a.eval y = .agg A) (hZ : Z.size = A.size)
    (hi : (P.info? ty).map (·.size) = some A.size) (h1 : A.all (·.oneCell') = true)
    (h : wpList P ops Q rest (a.put op.dst undef) (w.alloc (.cells A t))) : wpList P ops Q (op :: rest) a (w.alloc (.cells Z t)) := by
  refine wpList_store_mid hgd ty x y ho w.heap.size 0 A hx hy ?_ hi h1 ?_
  · intro j hj
    refine ⟨?_, by simp [go_sem]⟩
    rw [Nat.zero_add, show (w.alloc (.cells Z t)).cell? ⟨w.heap.size, j, none⟩ = Z[j]? by simp [go_sem]]
    rw [Array.getElem?_eq_getElem (by omega)]; rfl
  · have := setCells_new w t A.toList [] Z.toList (by simp [hZ])
    simp only [List.nil_append, List.length_nil, Array.toArray_toList] at this
    rw [this]
    exact h
theorem range_new (w : World) (A : Array Value) (t : TypeId) : (w.alloc (.cells A t)).rangeAt w.heap.size 0 A.toList := by
  intro j v hv
  rw [Nat.zero_add, show (w.alloc (.cells A t)).cell? ⟨w.heap.size, j, none⟩ = A[j]? by simp [go_sem], ← Array.getElem?_toList]
  exact hv
end Go.Proofs.YtlhbledakddbbaaGreatDoor
/- Two statements are the same: the program's. -/
namespace Go.Proofs.YtlhbledakddbbaaGreatDoor
open Go.RowKit

def St.OkP (w : World) (N : Nat) (x : St) (s : StP) : Prop := x.Ok w N s
theorem St.OkP.later {w w' : World} {N M : Nat} {x : St} {s : StP} (h : St.OkP w N x s) (hw : Below N w w') (hM : N ≤ M) : St.OkP w' M x s := St.Ok.later h hw hM
theorem St.At.openP {w : World} {N : Nat} {x : St} {b o : Nat} (h : x.At w N b o) : ∃ s : StP, (∀ j v, (x.cells s)[j]? = some v → w.cell? ⟨b, o + j, none⟩ = some v) ∧ St.OkP w N x s := h.open
def Sts.toL : Sts → List St
  | .nil => []
  | .cons x r => x :: r.toL
theorem Sts.toL_len : ∀ l : Sts, l.len = l.toL.length
  | .nil => rfl
  | .cons x r => by simp [Sts.len, Sts.toL, Sts.toL_len r]
theorem Sts.toL_size : ∀ {l : Sts} {x : St}, x ∈ l.toL → x.size < l.size
  | .cons y r, x, h => by
    rcases List.mem_cons.1 h with rfl | h
    · simp only [Sts.size]; omega
    · have := Sts.toL_size h; simp only [Sts.size]; omega
theorem Sts.row {w : World} {N b : Nat} : ∀ (l : Sts) (o : Nat), l.At w N b o → Row (St.At w N) 16 l.toL b o
  | .nil, _, _ => trivial
  | .cons _x r, o, h => ⟨h.1, Sts.row r (o + 16) h.2⟩
theorem Sts.rowIn {w : World} {N : Nat} {l : Sts} {p : Option Addr} (h : l.In w N p) : RowIn N (St.At w N) 16 l.toL p := by
  unfold RowIn
  rw [← Sts.toL_len]
  exact Sl.imp h (Nat.le_refl _) fun b o _ ha => Sts.row l o ha
theorem cells_later {w0 w1 : World} {b : Nat} {A : Array Value} {t : TypeId} (h : w0.heap[b]? = some (.cells A t (0, 0))) (hb : Below w0.heap.size w0 w1) : ∀ j v, A[j]? = some v → w1.cell? ⟨b, j, none⟩ = some v := by
  intro j v hv
  have h1 := (hb.block _ (lt_of_block h)).trans h
  simp [World.cell?, h1, hv]
theorem infoSt : (Tryz.prog.info? 54).map (·.size) = some 16 := by kernel_rfl
theorem oneSt (x : St) (s : StP) : (x.cells s).all (·.oneCell') = true := by simp [St.cells, Value.oneCell']

end Go.Proofs.YtlhbledakddbbaaGreatDoor
/- The text of an array's place. -/
namespace Go.Proofs.YtlhbledakddbbaaGreatDoor
open Go.RowKit

theorem step_append_own {P : Program} {ops : Array Oper} {o : Oper} {a : Act} {w : World} {K : Act → World → Prop} {Q : Exit → Act → World → Prop} {E : Prop}
    (hgd : o.guard = none) (s x : Operand) (t : TypeId)
    (ho : o.op = .call { callee := .builtin .append, args := #[s, x], argTypes := #[t, t] })
    (base : Nat) (e : TypeId) (i : TypeInfo) (ht : P.underlying t = some (.slice e)) (hi : P.info? e = some i) (hz : i.zero = some (.int .u8 0)) (hsize : i.size = 1) (hby : i.bytes = 1)
    (v : Value) (n : Nat) (xs : List Value) (hs : a.eval s = v) (hown : OwnT w base e v n xs)
    (ad : Addr) (m c : Nat) (news : List Value) (hx : a.eval x = .slice (some ad) m c) (hl : news.length = m) (hnews : ∀ j u, news[j]? = some u → w.cell? (ad.add j) = some u) (h1 : ∀ u ∈ news, u.oneCell' = true)
    (h63 : n + m ≤ maxLen) (hbytes : n + m ≤ 140737488355328) (hbase : base ≤ w.heap.size)
    (h : ∀ v' w', OwnT w' base e v' (n + m) (xs ++ news) → w.grownBy w' v.ownBlock → K (a.put o.dst v') w') :
    if Region.wanted o (yielded ops a.tmps) = true then Oper.wp P o a w K Q else E := by
  have hw : Region.wanted o (yielded ops a.tmps) = true := by simp [Region.wanted, hgd]
  rw [if_pos hw]
  exact wp_append_T w s x t ho base e i ht hi hz hsize hby v n xs hs hown ad m c news hx hl hnews h1 h63 hbytes hbase h
/-- an append of one byte, behind the row that holds it -/
theorem step_byte {B : Nat} {bs : List UInt8} {c : UInt8} {ops : Array Oper} {o : Oper} {a : Act} {w : World} {K : Act → World → Prop} {Q : Exit → Act → World → Prop} {E : Prop} {v : Value}
    (hgd : o.guard = none) (s x : Operand)
    (ho : o.op = .call { callee := .builtin .append, args := #[s, x], argTypes := #[83, 83] })
    (hs : a.eval s = v) (hR : BRow B w bs v) (hB : B ≤ w.heap.size) (hl : bs.length ≤ 1000000000)
    (hx : a.eval x = .slice (some ⟨w.heap.size, 0, none⟩) 1 1)
    (h : ∀ v' w', BRow B w' (bs ++ [c]) v' → Fr B w w' → K (a.put o.dst v') w') :
    if Region.wanted o (yielded ops a.tmps) = true then Oper.wp Tryz.prog o a (w.alloc (.cells #[.int .u8 (c.toNat : Int)] 5)) K Q else E := by
  obtain ⟨i0, hi, hz0, hz1, hz2⟩ := info_parts'
  refine step_append_own hgd s x 83 ho B 5 i0 Tryz.underlying83 hi hz0 hz1 hz2 v bs.length (Lib.byteCells bs) hs (hR.alloc _) ⟨w.heap.size, 0, none⟩ 1 1 [.int .u8 (c.toNat : Int)] hx rfl ?_ ?_ ?_ ?_ ?_ ?_
  · intro j u hj; match j, hj with
    | 0, hj => simp at hj; subst hj; simp [go_sem, Addr.add]
  · intro u hu; simp at hu; subst hu; rfl
  · unfold maxLen; omega
  · omega
  · simp; omega
  · intro v' w' h1 h2
    obtain ⟨h3, h4⟩ := brow_app hR hB h1 h2
    exact h v' w' h3 h4

def TellTo (n : Nat) : Prop := ∀ (x : Ex), x.size < n → x.may = true → ∀ (b o N B m : Nat) (v : Value) (bs : List UInt8) (w : World), b < N → N ≤ B → x.At w N b o → TEnv B m w → BRow B w bs v → bs.length + x.text.length ≤ 1000000000 →
    Calls Tryz.prog 80 #[.agg #[.map (some m)], v, .pointer (some ⟨b, o, none⟩)] w fun e w' => (∃ v', e = .returned v' ∧ BRow B w' (bs ++ x.text) v') ∧ Fr B w w'

set_option maxRecDepth 100000 in
set_option maxHeartbeats 3200000 in
theorem place_step (n : Nat) (ih : TellTo n) (x : Ex) (hxs : x.size < n) (hm : x.may = true) (nm : List UInt8) (b o N B m : Nat) (v : Value) (bs : List UInt8) (w : World) (hb : b < N) (hN : N ≤ B) (hx : x.At w N b o) (he : TEnv B m w) (hR : BRow B w bs v) (hl : bs.length + (nm ++ [91] ++ x.text ++ [93]).length ≤ 1000000000) :
    Calls Tryz.prog 119 #[.agg #[.map (some m)], v, .string (str nm), .pointer (some ⟨b, o, none⟩)] w fun e w' => (∃ v', e = .returned v' ∧ BRow B w' (bs ++ (nm ++ [91] ++ x.text ++ [93])) v') ∧ Fr B w w' := by
  obtain ⟨i0, hi, hz0, hz1, hz2⟩ := info_parts'
  simp only [List.length_append, List.length_cons, List.length_nil] at hl
  have HIH := Lib.hid (fun v bs w h1 h2 h3 h4 => ih x hxs hm b o N B m v bs w hb hN h1 h2 h3 h4)
  have HX := Lib.hid (fun w' (h : Fr B w w') => Ex.At.later (h.1.mono hN) (Nat.le_refl _) x b o hb hx)
  have HE := Lib.hid he
  have hbw := he.bw
  have HF1 := Lib.hid ((Fr.refl B w).alloc he.bw (.cells #[.map (some m)] 68))
  have HG1 := Lib.hid (heap_alloc_new w (.cells #[.map (some m)] 68))
  have HR1 : Hid (BRow B (w.alloc (.cells #[.map (some m)] 68)) bs v) := Lib.hid (hR.later ((Below.refl _ _).alloc (Nat.le_refl _) _))
  have HSz := Lib.hid (size_str nm)
  have HTx := Lib.hid (show bs.length + (str nm).size ≤ 1000000000 by rw [size_str]; omega)
  have hbw1 : B ≤ (w.alloc (.cells #[.map (some m)] 68)).heap.size := Nat.le_trans hbw (by simp)
  clear ih hx he hR
  go_enter Tryz.func119, Tryz.ntmps119
  have hown_ := HR1.out
  unfold BRow at hown_
  go_wp2_with (at_builtin; refine wpList_append_str_T _ rfl _ _ 83 9 rfl B 5 i0 Tryz.underlying83 Tryz.underlying9 hi hz0 hz1 hz2 _ _ _ rfl hown_ (str nm) rfl ?y1c ?y1d ?y1e ?_)
  case y1c => have := HTx.out; unfold maxLen; omega
  case y1d => have := HTx.out; omega
  case y1e => exact hbw1
  intro v2 w2 hown hgrow
  have hap := brow_apps HR1.out hbw1 hown hgrow
  have HR2 := Lib.hid hap.1
  have HF2a := Lib.hid hap.2
  clear hown hgrow hap hown_
  have HR2 := Lib.hid (show BRow B w2 (bs ++ nm) v2 from HR2.out)
  have HF2 := Lib.hid (HF1.out.trans HF2a.out)
  have hg2 := HF2a.out.cell HG1.out (by decide)
  have HG2 := Lib.hid hg2
  have c2 := cell_of_one hg2
  have hbw2 := Nat.le_trans hbw HF2.out.1.size
  have HL2 := Lib.hid (show (bs ++ nm).length ≤ 1000000000 by rw [List.length_append]; omega)
  have HL3 := Lib.hid (show (bs ++ nm ++ [91]).length + x.text.length ≤ 1000000000 by simp only [List.length_append, List.length_cons, List.length_nil]; omega)
  have HL4 := Lib.hid (show (bs ++ nm ++ [91] ++ x.text).length + 1 ≤ 1000000000 by simp only [List.length_append, List.length_cons, List.length_nil]; omega)
  clear hg2 HTx HR1 hbw1 HF2a hl
  go_wp2_with fail
  go_region_held3 (fun W => W.cell? ⟨w.heap.size, 0, none⟩ = some (.map (some m)))
    (first | go_keep | assumption)
    (first
      | (refine step_byte (B := B) (bs := bs ++ nm) (c := 91) (w := w2.drew) rfl (.tmp 13) (.tmp 14) rfl (by rfl) (HR2.out.later (Below.refl _ _).drew) hbw2 HL2.out (by rfl) ?_
         intro v3 w3 hR3 hF3
         have hc3 : w3.cell? ⟨w.heap.size, 0, none⟩ = some (.map (some m)) := cell_of_one (hF3.cell HG2.out (by decide))
         have HF3 := Lib.hid (HF2.out.drew.trans hF3)
         have HG3 := Lib.hid (hF3.cell HG2.out (by decide)))
      | (go_at_call 80
         refine (HIH.out _ _ _ (HX.out _ HF3.out) (HE.out.later HF3.out.1) hR3 HL3.out).mono ?_
         rintro e w4 ⟨⟨v4, rfl, hR4⟩, hF4⟩
         have hc4 : w4.cell? ⟨w.heap.size, 0, none⟩ = some (.map (some m)) := cell_of_one (hF4.cell HG3.out (by decide))))
  have HR4 := Lib.hid hR4
  have HF4 := Lib.hid (HF3.out.trans hF4)
  have hbw4 := Nat.le_trans hbw HF4.out.1.size
  clear hR4 hF4 hR3 hF3 hc3 hc4
  obtain ⟨ly2, hly2⟩ : ∃ l, bs ++ nm ++ [91] ++ x.text = l := ⟨_, rfl⟩
  have HLy2 := Lib.hid hly2
  rw [hly2] at HR4 HL4
  clear hly2
  have hown_ := HR4.out
  unfold BRow at hown_
  go_wp2_with (at_builtin; refine wpList_append_T _ rfl _ _ 83 rfl B 5 i0 Tryz.underlying83 hi hz0 hz1 hz2 _ _ _ rfl (hown_.alloc _) ⟨w4.heap.size, 0, none⟩ 1 1 [.int .u8 93] rfl rfl ?y2a ?y2b ?y2c ?y2d ?y2e ?_)
  case y2a => intro j u hj; match j, hj with
    | 0, hj => simp at hj; subst hj; simp [go_sem, Addr.add]
  case y2b => intro u hu; simp at hu; subst hu; rfl
  case y2c => have := HL4.out; unfold maxLen; omega
  case y2d => have := HL4.out; omega
  case y2e => exact Nat.le_trans hbw4 (by simp)
  intro v5 w5 hown hgrow
  have hap := brow_app (c := 93) HR4.out hbw4 hown hgrow
  have HR5 := Lib.hid hap.1
  have HF5 := Lib.hid hap.2
  clear hown hgrow hap hown_
  rw [← HLy2.out] at HR5
  go_wp2_with fail
  go_ret
  exact ⟨⟨v5, rfl, by have h := HR5.out; simpa only [List.append_assoc] using h⟩, HF4.out.trans HF5.out⟩
end Go.Proofs.YtlhbledakddbbaaGreatDoor
/- The text of a list of expressions. -/
namespace Go.Proofs.YtlhbledakddbbaaGreatDoor
open Go.RowKit

def Exs.ok : Exs → Bool
  | .nil => true
  | .cons x r => x.may && r.ok
theorem Exs.may_ok : ∀ l : Exs, l.may = l.ok
  | .nil => rfl
  | .cons x r => by rw [Exs.may, Exs.ok, Exs.may_ok r]
set_option maxRecDepth 100000 in
set_option maxHeartbeats 6400000 in
theorem list_step (n : Nat) (ih : TellTo n) (l : Exs) (hls : l.size < n) (hm : l.may = true) (p : Option Addr) (c N B m : Nat) (v : Value) (bs : List UInt8) (w : World) (hN : N ≤ B) (hx : l.In w N p) (he : TEnv B m w) (hR : BRow B w bs v) (hl : bs.length + ([40] ++ Lib.join l.texts [44, 32] ++ [41]).length ≤ 1000000000) :
    Calls Tryz.prog 120 #[.agg #[.map (some m)], v, .slice p l.len c] w fun e w' => (∃ v', e = .returned v' ∧ BRow B w' (bs ++ ([40] ++ Lib.join l.texts [44, 32] ++ [41])) v') ∧ Fr B w w' := by
  obtain ⟨i0, hi, hz0, hz1, hz2⟩ := info_parts'
  simp only [List.length_append, List.length_cons, List.length_nil] at hl
  have IH := Lib.hid ih
  have HX := Lib.hid hx
  have HE := Lib.hid he
  have hbw := he.bw
  have HF1 := Lib.hid ((Fr.refl B w).alloc he.bw (.cells #[.map (some m)] 68))
  have HG1 := Lib.hid (heap_alloc_new w (.cells #[.map (some m)] 68))
  have HR1 : Hid (BRow B (w.alloc (.cells #[.map (some m)] 68)) bs v) := Lib.hid (hR.later ((Below.refl _ _).alloc (Nat.le_refl _) _))
  have hbw1 : B ≤ (w.alloc (.cells #[.map (some m)] 68)).heap.size := Nat.le_trans hbw (by simp)
  have HT1 := Lib.hid (show bs.length + 1 ≤ 1000000000 by omega)
  clear ih hx he hR
  go_enter Tryz.func120, Tryz.ntmps120
  have hown_ := HR1.out
  unfold BRow at hown_
  go_wp2_with (at_builtin; refine wpList_append_T _ rfl _ _ 83 rfl B 5 i0 Tryz.underlying83 hi hz0 hz1 hz2 _ _ _ rfl (hown_.alloc _) ⟨w.heap.size + 1, 0, none⟩ 1 1 [.int .u8 40] rfl rfl ?y1a ?y1b ?y1c ?y1d ?y1e ?_)
  case y1a => intro j u hj; match j, hj with
    | 0, hj => simp at hj; subst hj; simp [go_sem, Addr.add]
  case y1b => intro u hu; simp at hu; subst hu; rfl
  case y1c => have := HT1.out; unfold maxLen; omega
  case y1d => have := HT1.out; omega
  case y1e => exact Nat.le_trans hbw1 (by simp)
  intro v2 w2 hown hgrow
  have hap := brow_app (c := 40) HR1.out hbw1 hown hgrow
  have HR2 := Lib.hid hap.1
  have HF2a := Lib.hid hap.2
  clear hown hgrow hap hown_
  have HF2 := Lib.hid (HF1.out.trans HF2a.out)
  have HG2 := Lib.hid (HF2a.out.cell HG1.out (by decide))
  have HL := Lib.hid hl
  clear HT1 HR1 hbw1 HF2a hl
  go_wp2_with fail
  go_loopw [1, 13] (fun u i wr => ∃ (k : Nat) (r : Exs) (J : List UInt8) (v0 : Value), v0 = u ∧ i = .int .i64 k ∧ k + r.len = l.len ∧ r.size ≤ l.size ∧ Hid (r.ok = true) ∧ Hid ((k = 0 ∧ J = [] ∧ r = l) ∨ (0 < k ∧ Lib.join l.texts [44, 32] = J ++ Lib.joinTail [44, 32] r.texts)) ∧
      Hid (r.len = 0 ∨ ∃ b o, p = some ⟨b, o, none⟩ ∧ b < N ∧ r.At w N b (o + k * 4)) ∧ Hid (BRow B wr (bs ++ [40] ++ J) v0) ∧ Hid (Fr B w wr) ∧ Hid (wr.heap[w.heap.size]? = some (.cells #[.map (some m)] 68 (0, 0)))) (fun _ i _ => l.len - (intOf i).toNat)
  case atStart => exact ⟨0, l, [], _, rfl, rfl, by omega, Nat.le_refl _, Lib.hid (by rw [← Exs.may_ok]; exact hm), Lib.hid (.inl ⟨rfl, rfl, rfl⟩), Lib.hid (by
    rcases HX.out.2 with h | ⟨b, o, h1, h2, h3⟩
    · exact .inl h
    · exact .inr ⟨b, o, h1, h2, by rw [Nat.zero_mul]; exact h3⟩), Lib.hid (by rw [List.append_nil]; exact HR2.out), HF2, HG2⟩
  case round =>
    obtain ⟨k, r, J, u, rfl, rfl, hk, hrs, hok, hJ, hAt, hRow, hFr, hG⟩ := hrel
    have hbwr := Nat.le_trans hbw hFr.out.1.size
    cases r with
    | nil =>
      simp only [Exs.len] at hk
      have hge : ¬ k < l.len := by omega
      have HJ := Lib.hid (show J = Lib.join l.texts [44, 32] by
        rcases hJ.out with ⟨_, h2, h3⟩ | ⟨_, h2⟩
        · rw [h2, ← h3]; rfl
        · rw [h2, Exs.texts]; simp [Lib.joinTail])
      have HT3 := Lib.hid (show (bs ++ [40] ++ J).length + 1 ≤ 1000000000 by have := HL.out; rw [HJ.out]; simp only [List.length_append, List.length_cons, List.length_nil]; omega)
      have HRow := hRow
      obtain ⟨ly2, hly2⟩ : ∃ l, bs ++ [40] ++ J = l := ⟨_, rfl⟩
      have HLy2 := Lib.hid hly2
      rw [hly2] at HRow HT3
      clear hly2
      have hown_ := HRow.out
      unfold BRow at hown_
      go_wp2_with (at_builtin; refine wpList_append_T _ rfl _ _ 83 rfl B 5 i0 Tryz.underlying83 hi hz0 hz1 hz2 _ _ _ rfl (hown_.alloc _) ⟨wr.heap.size, 0, none⟩ 1 1 [.int .u8 41] rfl rfl ?y2a ?y2b ?y2c ?y2d ?y2e ?_)
      case y2a => intro j u hj; match j, hj with
        | 0, hj => simp at hj; subst hj; simp [go_sem, Addr.add]
      case y2b => intro u hu; simp at hu; subst hu; rfl
      case y2c => have := HT3.out; unfold maxLen; omega
      case y2d => have := HT3.out; omega
      case y2e => exact Nat.le_trans hbwr (by simp)
      intro v5 w5 hown hgrow
      have hap := brow_app (c := 41) HRow.out hbwr hown hgrow
      have HR5 := Lib.hid hap.1
      have HF5 := Lib.hid hap.2
      clear hown hgrow hap hown_
      rw [← HLy2.out] at HR5
      go_wp2_with fail
      go_ret
      exact ⟨⟨v5, rfl, by have h := HR5.out; rw [HJ.out] at h; simpa using h⟩, hFr.out.trans HF5.out⟩
    | cons x r =>
      simp only [Exs.len] at hk
      simp only [Exs.size] at hrs
      have hlt : k < l.len := by omega
      obtain ⟨b, o, rfl, hb, hxr⟩ : ∃ b o, p = some ⟨b, o, none⟩ ∧ b < N ∧ (Exs.cons x r).At w N b (o + k * 4) := by
        rcases hAt.out with h0 | h0
        · simp [Exs.len] at h0
        · exact h0
      have hmx : x.may = true ∧ r.ok = true := by have h := hok.out; rw [Exs.ok, Bool.and_eq_true] at h; exact h
      have HOk := Lib.hid hmx.2
      have HIH := Lib.hid (fun v bs w h1 h2 h3 h4 => IH.out x (by omega) hmx.1 b (o + k * 4) N B m v bs w hb hN h1 h2 h3 h4)
      have HXl := Lib.hid (fun w' (h : Fr B w w') => Ex.At.later (h.1.mono hN) (Nat.le_refl _) x b (o + k * 4) hb hxr.1)
      have HAt2 := Lib.hid (show r.len = 0 ∨ ∃ b' o', (some (⟨b, o, none⟩ : Addr)) = some ⟨b', o', none⟩ ∧ b' < N ∧ r.At w N b' (o' + (k + 1) * 4) from .inr ⟨b, o, rfl, hb, by rw [show o + (k + 1) * 4 = o + k * 4 + 4 by omega]; exact hxr.2⟩)
      clear hAt hxr hmx hok
      have i0' : (0 : Int) ≤ (k : Int) := by omega
      have i1' : (k : Int) < (l.len : Int) := by omega
      have HK := Lib.hid (show k + 1 + r.len = l.len ∧ k < l.len from ⟨by omega, hlt⟩)
      have hkb : k ≤ 140737488355328 := by have := HX.out.1; omega
      rcases Nat.eq_zero_or_pos k with hk0 | hkp
      · subst hk0
        have HJ := Lib.hid (show J = [] ∧ Lib.join l.texts [44, 32] = x.text ++ Lib.joinTail [44, 32] r.texts by
          rcases hJ.out with ⟨_, h2, h3⟩ | ⟨h2, _⟩
          · rw [← h3]; exact ⟨h2, Lib.join_cons _ _ _⟩
          · omega)
        have hRw := hRow.out
        rw [HJ.out.1, List.append_nil] at hRw
        have HRw := Lib.hid hRw
        have HL3 := Lib.hid (show (bs ++ [40]).length + x.text.length ≤ 1000000000 by have h := HL.out; rw [HJ.out.2, List.length_append] at h; simp only [List.length_append, List.length_cons, List.length_nil]; omega)
        have c2 := cell_of_one hG.out
        have HC := Lib.hid (HIH.out _ _ wr.drew (HXl.out _ hFr.out.drew) ((HE.out.later hFr.out.1).later (Below.refl _ _).drew) (hRw.later (Below.refl _ _).drew) HL3.out)
        have HN := Lib.hid (show Lib.join l.texts [44, 32] = x.text ++ Lib.joinTail [44, 32] r.texts from HJ.out.2)
        clear hRw hRow hJ HJ
        go_wp2_with fail
        go_region_held3 (fun W => W.cell? ⟨w.heap.size, 0, none⟩ = some (.map (some m)))
          (first | go_keep | assumption)
          (first
            | (go_at_call 80
               refine HC.out.mono ?_
               rintro e w4 ⟨⟨v4, rfl, hR4⟩, hF4⟩
               have hc4 : w4.cell? ⟨w.heap.size, 0, none⟩ = some (.map (some m)) := cell_of_one (hF4.cell (g := w.heap.size) (cs := #[.map (some m)]) (t := 68) (fz := (0, 0)) hG.out (by decide))))
        have HR4 := Lib.hid (show BRow B w4 (bs ++ [40] ++ x.text) v4 from hR4)
        have HF4 := Lib.hid (hFr.out.drew.trans hF4)
        have HG4 := Lib.hid (hF4.cell (g := w.heap.size) (cs := #[.map (some m)]) (t := 68) (fz := (0, 0)) hG.out (by decide))
        clear hR4 hF4 hc4
        go_wp2_with fail
        go_roundw
        case rel => exact ⟨1, r, x.text, v4, rfl, rfl, by omega, by omega, HOk, Lib.hid (.inr ⟨by omega, HN.out⟩), HAt2, HR4, HF4, HG4⟩
        case measure => simp [intOf]; omega
      · have hgt : (0 : Int) < (k : Int) := by omega
        have HN := Lib.hid (show Lib.join l.texts [44, 32] = J ++ [44, 32] ++ x.text ++ Lib.joinTail [44, 32] r.texts by
          rcases hJ.out with ⟨h2, _⟩ | ⟨_, h2⟩
          · omega
          · rw [h2, Exs.texts]; simp [Lib.joinTail])
        have HT4 := Lib.hid (show (bs ++ [40] ++ J).length + (⟨#[44, 32]⟩ : ByteArray).size ≤ 1000000000 by have h := HL.out; rw [HN.out] at h; simp only [List.length_append, List.length_cons, List.length_nil] at h ⊢; show _ + 2 ≤ _; omega)
        have HL3 := Lib.hid (show (bs ++ [40] ++ J ++ [44, 32]).length + x.text.length ≤ 1000000000 by have h := HL.out; rw [HN.out] at h; simp only [List.length_append, List.length_cons, List.length_nil] at h ⊢; omega)
        have HRow := hRow
        clear hJ
        obtain ⟨ly3, hly3⟩ : ∃ l, bs ++ [40] ++ J = l := ⟨_, rfl⟩
        have HLy3 := Lib.hid hly3
        rw [hly3] at HRow HT4
        clear hly3
        have hown_ := HRow.out
        unfold BRow at hown_
        go_wp2_with (at_builtin; refine wpList_append_str_T _ rfl _ _ 83 9 rfl B 5 i0 Tryz.underlying83 Tryz.underlying9 hi hz0 hz1 hz2 _ _ _ rfl hown_ ⟨#[44, 32]⟩ rfl ?y3c ?y3d ?y3e ?_)
        case y3c => have := HT4.out; unfold maxLen; omega
        case y3d => have := HT4.out; omega
        case y3e => exact hbwr
        intro v5 w5 hown hgrow
        have hap := brow_apps HRow.out hbwr hown hgrow
        have HR5 := Lib.hid hap.1
        have HF5a := Lib.hid hap.2
        clear hown hgrow hap hown_
        rw [← HLy3.out] at HR5
        have HR5' := Lib.hid (show BRow B w5 (bs ++ [40] ++ J ++ [44, 32]) v5 from HR5.out)
        have HF5 := Lib.hid (hFr.out.trans HF5a.out)
        have HG5 := Lib.hid (HF5a.out.cell hG.out (by decide))
        have c2 := cell_of_one HG5.out
        have HC := Lib.hid (HIH.out _ _ w5.drew (HXl.out _ HF5.out.drew) ((HE.out.later HF5.out.1).later (Below.refl _ _).drew) (HR5'.out.later (Below.refl _ _).drew) HL3.out)
        clear HF5a HR5 hRow
        go_wp2_with fail
        go_region_held3 (fun W => W.cell? ⟨w.heap.size, 0, none⟩ = some (.map (some m)))
          (first | go_keep | assumption)
          (first
            | (go_at_call 80
               refine HC.out.mono ?_
               rintro e w4 ⟨⟨v4, rfl, hR4⟩, hF4⟩
               have hc4 : w4.cell? ⟨w.heap.size, 0, none⟩ = some (.map (some m)) := cell_of_one (hF4.cell (g := w.heap.size) (cs := #[.map (some m)]) (t := 68) (fz := (0, 0)) HG5.out (by decide))))
        have HR4 := Lib.hid (show BRow B w4 (bs ++ [40] ++ (J ++ [44, 32] ++ x.text)) v4 by simpa only [List.append_assoc] using hR4)
        have HF4 := Lib.hid (HF5.out.drew.trans hF4)
        have HG4 := Lib.hid (hF4.cell (g := w.heap.size) (cs := #[.map (some m)]) (t := 68) (fz := (0, 0)) HG5.out (by decide))
        clear hR4 hF4 hc4
        go_wp2_with fail
        go_roundw
        case rel => exact ⟨k + 1, r, J ++ [44, 32] ++ x.text, v4, rfl, by go_num, HK.out.1, by omega, HOk, Lib.hid (.inr ⟨by omega, HN.out⟩), HAt2, HR4, HF4, HG4⟩
        case measure => have := HK.out.2; simp [intOf]; omega
end Go.Proofs.YtlhbledakddbbaaGreatDoor
/- The text of an expression: its walk. -/
namespace Go.Proofs.YtlhbledakddbbaaGreatDoor
open Go.RowKit

/-- an append of a text, behind a row -/
theorem step_str {B : Nat} {bs : List UInt8} {s : ByteArray} {ops : Array Oper} {o : Oper} {a : Act} {w : World} {K : Act → World → Prop} {Q : Exit → Act → World → Prop} {E : Prop} {v : Value}
    (hgd : o.guard = none) (sl x : Operand)
    (ho : o.op = .call { callee := .builtin .append, args := #[sl, x], argTypes := #[83, 9] })
    (hs : a.eval sl = v) (hR : BRow B w bs v) (hB : B ≤ w.heap.size) (hl : bs.length + s.size ≤ 1000000000)
    (hx : a.eval x = .string s)
    (h : ∀ v' w', BRow B w' (bs ++ s.data.toList) v' → Fr B w w' → K (a.put o.dst v') w') :
    if Region.wanted o (yielded ops a.tmps) = true then Oper.wp Tryz.prog o a w K Q else E := by
  obtain ⟨i0, hi, hz0, hz1, hz2⟩ := info_parts'
  have hw : Region.wanted o (yielded ops a.tmps) = true := by simp [Region.wanted, hgd]
  rw [if_pos hw]
  obtain ⟨v', w', hr, h2, h3⟩ := append_str_T (P := Tryz.prog) w B 83 9 o.type 5 i0 Tryz.underlying83 Tryz.underlying9 hi hz0 hz1 hz2 v bs.length (Lib.byteCells bs) hR s (by unfold maxLen; omega) (by omega) hB
  obtain ⟨h4, h5⟩ := brow_apps hR hB h2 h3
  unfold Oper.wp execOp
  simp only [ho, resolve, invoke, builtin, Sem.run_bind, Sem.run_pure, Result.andThen_ok, List.map_toArray, List.map_cons, List.map_nil, hs, hx, hr]
  exact h v' w' h4 h5

/-- the walk's facts -/
structure XF (B m N b o g : Nat) (op : Int) (wd : Nat) (nm : List UInt8) (p : Option Addr) (k c : Nat) (W : World) : Prop where
  te : W.heap[g]? = some (.cells #[.map (some m)] 68 (0, 0))
  c0 : W.cell? ⟨b, o, none⟩ = some (.int .i64 op)
  c1 : W.cell? ⟨b, o + 1, none⟩ = some (.int .u64 (wd : Int))
  c2 : W.cell? ⟨b, o + 2, none⟩ = some (.string (str nm))
  c3 : W.cell? ⟨b, o + 3, none⟩ = some (.slice p k c)
theorem XF.later {B m N b o g : Nat} {op : Int} {wd : Nat} {nm : List UInt8} {p : Option Addr} {k c : Nat} {W W' : World} (h : XF B m N b o g op wd nm p k c W) (hb : b < B) (hF : Fr B W W') : XF B m N b o g op wd nm p k c W' :=
  ⟨hF.cell h.te (by decide), (hF.1.cell (p := ⟨b, o, none⟩) hb).trans h.c0, (hF.1.cell (p := ⟨b, o + 1, none⟩) hb).trans h.c1, (hF.1.cell (p := ⟨b, o + 2, none⟩) hb).trans h.c2, (hF.1.cell (p := ⟨b, o + 3, none⟩) hb).trans h.c3⟩
theorem XF.S {B m N b o g : Nat} {op : Int} {wd : Nat} {nm : List UInt8} {p : Option Addr} {k c : Nat} {W : World} (h : XF B m N b o g op wd nm p k c W) : W.cell? ⟨g, 0, none⟩ = some (.map (some m)) ∧ W.cell? ⟨b, o, none⟩ = some (.int .i64 op) ∧ W.cell? ⟨b, o + 2, none⟩ = some (.string (str nm)) ∧ W.cell? ⟨b, o + 3, none⟩ = some (.slice p k c) :=
  ⟨cell_of_one h.te, h.c0, h.c2, h.c3⟩
theorem run_sign_field (s : ByteArray) (w : World) : (Instr.field 152 (.agg #[.string s]) 0).run Tryz.prog w = .ok (.string s) w := by first | kernel_rfl | simp [go_sem]
theorem Exs.two {l : Exs} (h : l.len = 2) : ∃ x y, l = .cons x (.cons y .nil) := by
  cases l with
  | nil => cases h
  | cons x r => cases r with
    | nil => cases h
    | cons y q => cases q with
      | nil => exact ⟨x, y, rfl⟩
      | cons z s => simp [Exs.len] at h
theorem Exs.one {l : Exs} (h : l.len = 1) : ∃ x, l = .cons x .nil := by
  cases l with
  | nil => cases h
  | cons x r => cases r with
    | nil => exact ⟨x, rfl⟩
    | cons y q => simp [Exs.len] at h
/-- where the arguments lie -/
theorem Exs.In.some' {w : World} {N : Nat} {l : Exs} {p : Option Addr} (h : l.In w N p) (h0 : 0 < l.len) : ∃ b o, p = some ⟨b, o, none⟩ ∧ b < N ∧ l.At w N b o := by
  rcases h.2 with h | h
  · omega
  · exact h

set_option maxRecDepth 100000 in
set_option maxHeartbeats 3200000 in
theorem expr_const (b o N B m : Nat) (v : Value) (bs : List UInt8) (w : World) (hb : b < N) (hN : N ≤ B) (he : TEnv B m w) (hR : BRow B w bs v) (wd : Nat) (nm : List UInt8) (p : Option Addr) (k c : Nat) (hw : wd < 18446744073709551616)
    (hc : w.cell? ⟨b, o, none⟩ = some (.int .i64 1) ∧ w.cell? ⟨b, o + 1, none⟩ = some (.int .u64 (wd : Int)) ∧ w.cell? ⟨b, o + 2, none⟩ = some (.string (str nm)) ∧ w.cell? ⟨b, o + 3, none⟩ = some (.slice p k c))
    (hl : bs.length + (Lib.decDigits wd).length ≤ 1000000000) :
    Calls Tryz.prog 80 #[.agg #[.map (some m)], v, .pointer (some ⟨b, o, none⟩)] w fun e w' => (∃ v', e = .returned v' ∧ BRow B w' (bs ++ (Lib.decDigits wd)) v') ∧ Fr B w w' := by
  obtain ⟨i0, hi, hz0, hz1, hz2⟩ := info_parts'
  have hbw := he.bw
  have hbB : b < B := by omega
  have HF1 := Lib.hid ((Fr.refl B w).alloc hbw (.cells #[.map (some m)] 68))
  have HR1 : Hid (BRow B (w.alloc (.cells #[.map (some m)] 68)) bs v) := Lib.hid (hR.later ((Below.refl _ _).alloc (Nat.le_refl _) _))
  have hbw1 : B ≤ (w.alloc (.cells #[.map (some m)] 68)).heap.size := Nat.le_trans hbw (by simp)
  have HE := Lib.hid he
  have HX1 : Hid (XF B m N b o w.heap.size (1) wd nm p k c (w.alloc (.cells #[.map (some m)] 68))) := Lib.hid
    ⟨heap_alloc_new w _, (HF1.out.1.cell (p := ⟨b, o, none⟩) hbB).trans hc.1, (HF1.out.1.cell (p := ⟨b, o + 1, none⟩) hbB).trans hc.2.1, (HF1.out.1.cell (p := ⟨b, o + 2, none⟩) hbB).trans hc.2.2.1, (HF1.out.1.cell (p := ⟨b, o + 3, none⟩) hbB).trans hc.2.2.2⟩
  obtain ⟨h0, h1, h2, h3⟩ := hc
  have hbz : b < w.heap.size := by omega
  clear hR he
  have HC := Lib.hid (appendUint_any B wd bs v m _ hw HR1.out (HE.out.later HF1.out.1) (by omega))
  clear HR1
  go_enter Tryz.func80, Tryz.ntmps80
  go_wp2_with fail
  refine HC.out.mono ?_
  rintro e w2 ⟨⟨v2, rfl, hR2⟩, hF2⟩
  have HR2 := Lib.hid hR2
  have HF2 := Lib.hid (HF1.out.trans hF2)
  clear hR2 hF2
  go_wp2_with fail
  go_ret
  exact ⟨⟨v2, rfl, HR2.out⟩, HF2.out⟩

set_option maxRecDepth 100000 in
set_option maxHeartbeats 3200000 in
theorem expr_var (b o N B m : Nat) (v : Value) (bs : List UInt8) (w : World) (hb : b < N) (hN : N ≤ B) (he : TEnv B m w) (hR : BRow B w bs v) (wd : Nat) (nm : List UInt8) (p : Option Addr) (k c : Nat) 
    (hc : w.cell? ⟨b, o, none⟩ = some (.int .i64 2) ∧ w.cell? ⟨b, o + 1, none⟩ = some (.int .u64 (wd : Int)) ∧ w.cell? ⟨b, o + 2, none⟩ = some (.string (str nm)) ∧ w.cell? ⟨b, o + 3, none⟩ = some (.slice p k c))
    (hl : bs.length + (nm).length ≤ 1000000000) :
    Calls Tryz.prog 80 #[.agg #[.map (some m)], v, .pointer (some ⟨b, o, none⟩)] w fun e w' => (∃ v', e = .returned v' ∧ BRow B w' (bs ++ (nm)) v') ∧ Fr B w w' := by
  obtain ⟨i0, hi, hz0, hz1, hz2⟩ := info_parts'
  have hbw := he.bw
  have hbB : b < B := by omega
  have HF1 := Lib.hid ((Fr.refl B w).alloc hbw (.cells #[.map (some m)] 68))
  have HR1 : Hid (BRow B (w.alloc (.cells #[.map (some m)] 68)) bs v) := Lib.hid (hR.later ((Below.refl _ _).alloc (Nat.le_refl _) _))
  have hbw1 : B ≤ (w.alloc (.cells #[.map (some m)] 68)).heap.size := Nat.le_trans hbw (by simp)
  have HE := Lib.hid he
  have HX1 : Hid (XF B m N b o w.heap.size (2) wd nm p k c (w.alloc (.cells #[.map (some m)] 68))) := Lib.hid
    ⟨heap_alloc_new w _, (HF1.out.1.cell (p := ⟨b, o, none⟩) hbB).trans hc.1, (HF1.out.1.cell (p := ⟨b, o + 1, none⟩) hbB).trans hc.2.1, (HF1.out.1.cell (p := ⟨b, o + 2, none⟩) hbB).trans hc.2.2.1, (HF1.out.1.cell (p := ⟨b, o + 3, none⟩) hbB).trans hc.2.2.2⟩
  obtain ⟨h0, h1, h2, h3⟩ := hc
  have hbz : b < w.heap.size := by omega
  clear hR he
  have HT := Lib.hid (show bs.length + (str nm).size ≤ 1000000000 by rw [size_str]; exact hl)
  go_enter Tryz.func80, Tryz.ntmps80
  have hown_ := HR1.out
  unfold BRow at hown_
  go_wp2_with (at_builtin; refine wpList_append_str_T _ rfl _ _ 83 9 rfl B 5 i0 Tryz.underlying83 Tryz.underlying9 hi hz0 hz1 hz2 _ _ _ rfl hown_ (str nm) rfl ?y1c ?y1d ?y1e ?_)
  case y1c => have := HT.out; unfold maxLen; omega
  case y1d => have := HT.out; omega
  case y1e => exact hbw1
  intro v2 w2 hown hgrow
  have hap := brow_apps HR1.out hbw1 hown hgrow
  have HR2 := Lib.hid hap.1
  have HF2 := Lib.hid hap.2
  clear hown hgrow hap hown_
  go_wp2_with fail
  go_ret
  exact ⟨⟨v2, rfl, HR2.out⟩, HF1.out.trans HF2.out⟩

set_option maxRecDepth 100000 in
set_option maxHeartbeats 3200000 in
theorem expr_index (b o N B m : Nat) (v : Value) (bs : List UInt8) (w : World) (hb : b < N) (hN : N ≤ B) (he : TEnv B m w) (hR : BRow B w bs v) (wd : Nat) (nm : List UInt8) (p : Option Addr) (k c : Nat) (n : Nat) (ih : TellTo n) (x : Ex) (hxs : x.size < n) (hm : x.may = true) (hk : k = 1) (hsub : ∃ b2 o2, p = some ⟨b2, o2, none⟩ ∧ b2 < N ∧ x.At w N b2 o2)
    (hc : w.cell? ⟨b, o, none⟩ = some (.int .i64 3) ∧ w.cell? ⟨b, o + 1, none⟩ = some (.int .u64 (wd : Int)) ∧ w.cell? ⟨b, o + 2, none⟩ = some (.string (str nm)) ∧ w.cell? ⟨b, o + 3, none⟩ = some (.slice p k c))
    (hl : bs.length + (nm ++ [91] ++ x.text ++ [93]).length ≤ 1000000000) :
    Calls Tryz.prog 80 #[.agg #[.map (some m)], v, .pointer (some ⟨b, o, none⟩)] w fun e w' => (∃ v', e = .returned v' ∧ BRow B w' (bs ++ (nm ++ [91] ++ x.text ++ [93])) v') ∧ Fr B w w' := by
  obtain ⟨i0, hi, hz0, hz1, hz2⟩ := info_parts'
  have hbw := he.bw
  have hbB : b < B := by omega
  have HF1 := Lib.hid ((Fr.refl B w).alloc hbw (.cells #[.map (some m)] 68))
  have HR1 : Hid (BRow B (w.alloc (.cells #[.map (some m)] 68)) bs v) := Lib.hid (hR.later ((Below.refl _ _).alloc (Nat.le_refl _) _))
  have hbw1 : B ≤ (w.alloc (.cells #[.map (some m)] 68)).heap.size := Nat.le_trans hbw (by simp)
  have HE := Lib.hid he
  have HX1 : Hid (XF B m N b o w.heap.size (3) wd nm p k c (w.alloc (.cells #[.map (some m)] 68))) := Lib.hid
    ⟨heap_alloc_new w _, (HF1.out.1.cell (p := ⟨b, o, none⟩) hbB).trans hc.1, (HF1.out.1.cell (p := ⟨b, o + 1, none⟩) hbB).trans hc.2.1, (HF1.out.1.cell (p := ⟨b, o + 2, none⟩) hbB).trans hc.2.2.1, (HF1.out.1.cell (p := ⟨b, o + 3, none⟩) hbB).trans hc.2.2.2⟩
  obtain ⟨h0, h1, h2, h3⟩ := hc
  have hbz : b < w.heap.size := by omega
  clear hR he
  obtain ⟨b2, o2, rfl, hb2, hx2⟩ : ∃ b2 o2, p = some ⟨b2, o2, none⟩ ∧ b2 < N ∧ x.At w N b2 o2 := hsub
  have hk0 : 0 < k := by omega
  have HC := Lib.hid (place_step n ih x hxs hm nm b2 o2 N B m v bs _ hb2 hN (Ex.At.later (HF1.out.drew.1.mono hN) (Nat.le_refl _) x b2 o2 hb2 hx2) (HE.out.later HF1.out.drew.1) (HR1.out.later (Below.refl _ _).drew) hl)
  clear HR1 ih hx2
  subst hk
  go_enter Tryz.func80, Tryz.ntmps80
  go_wp2_with fail
  go_region_held3 (fun W => W.cell? ⟨w.heap.size, 0, none⟩ = some (.map (some m)) ∧ W.cell? ⟨b, o, none⟩ = some (.int .i64 3) ∧ W.cell? ⟨b, o + 2, none⟩ = some (.string (str nm)) ∧ W.cell? ⟨b, o + 3, none⟩ = some (.slice (some ⟨b2, o2, none⟩) 1 c))
    (first | go_keep | assumption | exact HX1.out.S | exact (HX1.out.later hbB ((Fr.refl _ _).drew)).S)
    (first
      | (go_at_call 119
         refine HC.out.mono ?_
         rintro e w4 ⟨⟨v4, rfl, hR4⟩, hF4⟩
         have hS4 := ((HX1.out.later hbB ((Fr.refl _ _).drew)).later hbB hF4).S))
  have HR4 := Lib.hid hR4
  have HF4 := Lib.hid (HF1.out.drew.trans hF4)
  clear hR4 hF4 hS4
  go_wp2_with fail
  go_ret
  exact ⟨⟨v4, rfl, HR4.out⟩, HF4.out⟩

set_option maxRecDepth 100000 in
set_option maxHeartbeats 3200000 in
theorem expr_not (b o N B m : Nat) (v : Value) (bs : List UInt8) (w : World) (hb : b < N) (hN : N ≤ B) (he : TEnv B m w) (hR : BRow B w bs v) (wd : Nat) (nm : List UInt8) (p : Option Addr) (k c : Nat) (n : Nat) (ih : TellTo n) (x : Ex) (hxs : x.size < n) (hm : x.may = true) (hk : k = 1) (hsub : ∃ b2 o2, p = some ⟨b2, o2, none⟩ ∧ b2 < N ∧ x.At w N b2 o2)
    (hc : w.cell? ⟨b, o, none⟩ = some (.int .i64 4) ∧ w.cell? ⟨b, o + 1, none⟩ = some (.int .u64 (wd : Int)) ∧ w.cell? ⟨b, o + 2, none⟩ = some (.string (str nm)) ∧ w.cell? ⟨b, o + 3, none⟩ = some (.slice p k c))
    (hl : bs.length + ([126] ++ x.text).length ≤ 1000000000) :
    Calls Tryz.prog 80 #[.agg #[.map (some m)], v, .pointer (some ⟨b, o, none⟩)] w fun e w' => (∃ v', e = .returned v' ∧ BRow B w' (bs ++ ([126] ++ x.text)) v') ∧ Fr B w w' := by
  obtain ⟨i0, hi, hz0, hz1, hz2⟩ := info_parts'
  have hbw := he.bw
  have hbB : b < B := by omega
  have HF1 := Lib.hid ((Fr.refl B w).alloc hbw (.cells #[.map (some m)] 68))
  have HR1 : Hid (BRow B (w.alloc (.cells #[.map (some m)] 68)) bs v) := Lib.hid (hR.later ((Below.refl _ _).alloc (Nat.le_refl _) _))
  have hbw1 : B ≤ (w.alloc (.cells #[.map (some m)] 68)).heap.size := Nat.le_trans hbw (by simp)
  have HE := Lib.hid he
  have HX1 : Hid (XF B m N b o w.heap.size (4) wd nm p k c (w.alloc (.cells #[.map (some m)] 68))) := Lib.hid
    ⟨heap_alloc_new w _, (HF1.out.1.cell (p := ⟨b, o, none⟩) hbB).trans hc.1, (HF1.out.1.cell (p := ⟨b, o + 1, none⟩) hbB).trans hc.2.1, (HF1.out.1.cell (p := ⟨b, o + 2, none⟩) hbB).trans hc.2.2.1, (HF1.out.1.cell (p := ⟨b, o + 3, none⟩) hbB).trans hc.2.2.2⟩
  obtain ⟨h0, h1, h2, h3⟩ := hc
  have hbz : b < w.heap.size := by omega
  clear hR he
  obtain ⟨b2, o2, rfl, hb2, hx2⟩ : ∃ b2 o2, p = some ⟨b2, o2, none⟩ ∧ b2 < N ∧ x.At w N b2 o2 := hsub
  have hk0 : 0 < k := by omega
  have HIH := Lib.hid (fun v bs w h1 h2 h3 h4 => ih x hxs hm b2 o2 N B m v bs w hb2 hN h1 h2 h3 h4)
  have HXl := Lib.hid (fun w' (h : Fr B w w') => Ex.At.later (h.1.mono hN) (Nat.le_refl _) x b2 o2 hb2 hx2)
  have HL2 := Lib.hid (show (bs ++ [126]).length + x.text.length ≤ 1000000000 by simp only [List.length_append, List.length_cons, List.length_nil] at hl ⊢; omega)
  have HL1 := Lib.hid (show bs.length ≤ 1000000000 by omega)
  clear ih hx2
  subst hk
  go_enter Tryz.func80, Tryz.ntmps80
  go_wp2_with fail
  obtain ⟨w1, hw1⟩ : ∃ w1, w.alloc (.cells #[.map (some m)] 68) = w1 := ⟨_, rfl⟩
  rw [hw1] at HR1 HX1 HF1 hbw1 ⊢
  clear hw1 h0 h1 h2 h3
  obtain ⟨z0, z1, z2, z3⟩ := HX1.out.S
  go_region_held3 (fun W => W.cell? ⟨w.heap.size, 0, none⟩ = some (.map (some m)) ∧ W.cell? ⟨b, o, none⟩ = some (.int .i64 4) ∧ W.cell? ⟨b, o + 2, none⟩ = some (.string (str nm)) ∧ W.cell? ⟨b, o + 3, none⟩ = some (.slice (some ⟨b2, o2, none⟩) 1 c))
    (first | go_keep | assumption | exact HX1.out.S | exact (HX1.out.later hbB ((Fr.refl _ _).drew)).S)
    (first
      | (refine step_byte (B := B) (bs := bs) (c := 126) (w := w1.drew) rfl (.tmp 44) (.tmp 45) rfl (by rfl) (HR1.out.later (Below.refl _ _).drew) hbw1 HL1.out (by rfl) ?_
         intro v3 w3 hR3 hF3
         have HF3 := Lib.hid (HF1.out.drew.trans hF3)
         have HX3 := Lib.hid ((HX1.out.later hbB ((Fr.refl _ _).drew)).later hbB hF3)
         have hS3 := HX3.out.S)
      | (go_at_call 80
         refine (HIH.out _ _ _ (HXl.out _ HF3.out) (HE.out.later HF3.out.1) hR3 HL2.out).mono ?_
         rintro e w4 ⟨⟨v4, rfl, hR4⟩, hF4⟩
         have hS4 := (HX3.out.later hbB hF4).S))
  have HR4 := Lib.hid hR4
  have HF4 := Lib.hid (HF3.out.trans hF4)
  clear hR4 hF4 hS4 hR3 hF3 hS3
  go_wp2_with fail
  go_ret
  exact ⟨⟨v4, rfl, by have h := HR4.out; simpa using h⟩, HF4.out⟩

set_option maxRecDepth 100000 in
set_option maxHeartbeats 3200000 in
theorem expr_neg (b o N B m : Nat) (v : Value) (bs : List UInt8) (w : World) (hb : b < N) (hN : N ≤ B) (he : TEnv B m w) (hR : BRow B w bs v) (wd : Nat) (nm : List UInt8) (p : Option Addr) (k c : Nat) (n : Nat) (ih : TellTo n) (x : Ex) (hxs : x.size < n) (hm : x.may = true) (hk : k = 1) (hsub : ∃ b2 o2, p = some ⟨b2, o2, none⟩ ∧ b2 < N ∧ x.At w N b2 o2)
    (hc : w.cell? ⟨b, o, none⟩ = some (.int .i64 5) ∧ w.cell? ⟨b, o + 1, none⟩ = some (.int .u64 (wd : Int)) ∧ w.cell? ⟨b, o + 2, none⟩ = some (.string (str nm)) ∧ w.cell? ⟨b, o + 3, none⟩ = some (.slice p k c))
    (hl : bs.length + ([45] ++ x.text).length ≤ 1000000000) :
    Calls Tryz.prog 80 #[.agg #[.map (some m)], v, .pointer (some ⟨b, o, none⟩)] w fun e w' => (∃ v', e = .returned v' ∧ BRow B w' (bs ++ ([45] ++ x.text)) v') ∧ Fr B w w' := by
  obtain ⟨i0, hi, hz0, hz1, hz2⟩ := info_parts'
  have hbw := he.bw
  have hbB : b < B := by omega
  have HF1 := Lib.hid ((Fr.refl B w).alloc hbw (.cells #[.map (some m)] 68))
  have HR1 : Hid (BRow B (w.alloc (.cells #[.map (some m)] 68)) bs v) := Lib.hid (hR.later ((Below.refl _ _).alloc (Nat.le_refl _) _))
  have hbw1 : B ≤ (w.alloc (.cells #[.map (some m)] 68)).heap.size := Nat.le_trans hbw (by simp)
  have HE := Lib.hid he
  have HX1 : Hid (XF B m N b o w.heap.size (5) wd nm p k c (w.alloc (.cells #[.map (some m)] 68))) := Lib.hid
    ⟨heap_alloc_new w _, (HF1.out.1.cell (p := ⟨b, o, none⟩) hbB).trans hc.1, (HF1.out.1.cell (p := ⟨b, o + 1, none⟩) hbB).trans hc.2.1, (HF1.out.1.cell (p := ⟨b, o + 2, none⟩) hbB).trans hc.2.2.1, (HF1.out.1.cell (p := ⟨b, o + 3, none⟩) hbB).trans hc.2.2.2⟩
  obtain ⟨h0, h1, h2, h3⟩ := hc
  have hbz : b < w.heap.size := by omega
  clear hR he
  obtain ⟨b2, o2, rfl, hb2, hx2⟩ : ∃ b2 o2, p = some ⟨b2, o2, none⟩ ∧ b2 < N ∧ x.At w N b2 o2 := hsub
  have hk0 : 0 < k := by omega
  have HIH := Lib.hid (fun v bs w h1 h2 h3 h4 => ih x hxs hm b2 o2 N B m v bs w hb2 hN h1 h2 h3 h4)
  have HXl := Lib.hid (fun w' (h : Fr B w w') => Ex.At.later (h.1.mono hN) (Nat.le_refl _) x b2 o2 hb2 hx2)
  have HL2 := Lib.hid (show (bs ++ [45]).length + x.text.length ≤ 1000000000 by simp only [List.length_append, List.length_cons, List.length_nil] at hl ⊢; omega)
  have HL1 := Lib.hid (show bs.length ≤ 1000000000 by omega)
  clear ih hx2
  subst hk
  go_enter Tryz.func80, Tryz.ntmps80
  go_wp2_with fail
  obtain ⟨w1, hw1⟩ : ∃ w1, w.alloc (.cells #[.map (some m)] 68) = w1 := ⟨_, rfl⟩
  rw [hw1] at HR1 HX1 HF1 hbw1 ⊢
  clear hw1 h0 h1 h2 h3
  obtain ⟨z0, z1, z2, z3⟩ := HX1.out.S
  go_region_held3 (fun W => W.cell? ⟨w.heap.size, 0, none⟩ = some (.map (some m)) ∧ W.cell? ⟨b, o, none⟩ = some (.int .i64 5) ∧ W.cell? ⟨b, o + 2, none⟩ = some (.string (str nm)) ∧ W.cell? ⟨b, o + 3, none⟩ = some (.slice (some ⟨b2, o2, none⟩) 1 c))
    (first | go_keep | assumption | exact HX1.out.S | exact (HX1.out.later hbB ((Fr.refl _ _).drew)).S)
    (first
      | (refine step_byte (B := B) (bs := bs) (c := 45) (w := w1.drew) rfl (.tmp 56) (.tmp 57) rfl (by rfl) (HR1.out.later (Below.refl _ _).drew) hbw1 HL1.out (by rfl) ?_
         intro v3 w3 hR3 hF3
         have HF3 := Lib.hid (HF1.out.drew.trans hF3)
         have HX3 := Lib.hid ((HX1.out.later hbB ((Fr.refl _ _).drew)).later hbB hF3)
         have hS3 := HX3.out.S)
      | (go_at_call 80
         refine (HIH.out _ _ _ (HXl.out _ HF3.out) (HE.out.later HF3.out.1) hR3 HL2.out).mono ?_
         rintro e w4 ⟨⟨v4, rfl, hR4⟩, hF4⟩
         have hS4 := (HX3.out.later hbB hF4).S))
  have HR4 := Lib.hid hR4
  have HF4 := Lib.hid (HF3.out.trans hF4)
  clear hR4 hF4 hS4 hR3 hF3 hS3
  go_wp2_with fail
  go_ret
  exact ⟨⟨v4, rfl, by have h := HR4.out; simpa using h⟩, HF4.out⟩

set_option maxRecDepth 100000 in
set_option maxHeartbeats 3200000 in
theorem expr_pick (b o N B m : Nat) (v : Value) (bs : List UInt8) (w : World) (hb : b < N) (hN : N ≤ B) (he : TEnv B m w) (hR : BRow B w bs v) (wd : Nat) (nm : List UInt8) (p : Option Addr) (k c : Nat) (n : Nat) (ih : TellTo n) (l : Exs) (hls : l.size < n) (hm : l.may = true) (hk : k = l.len) (hin : l.In w N p)
    (hc : w.cell? ⟨b, o, none⟩ = some (.int .i64 21) ∧ w.cell? ⟨b, o + 1, none⟩ = some (.int .u64 (wd : Int)) ∧ w.cell? ⟨b, o + 2, none⟩ = some (.string (str nm)) ∧ w.cell? ⟨b, o + 3, none⟩ = some (.slice p k c))
    (hl : bs.length + ([112, 105, 99, 107] ++ [40] ++ Lib.join l.texts [44, 32] ++ [41]).length ≤ 1000000000) :
    Calls Tryz.prog 80 #[.agg #[.map (some m)], v, .pointer (some ⟨b, o, none⟩)] w fun e w' => (∃ v', e = .returned v' ∧ BRow B w' (bs ++ ([112, 105, 99, 107] ++ [40] ++ Lib.join l.texts [44, 32] ++ [41])) v') ∧ Fr B w w' := by
  obtain ⟨i0, hi, hz0, hz1, hz2⟩ := info_parts'
  have hbw := he.bw
  have hbB : b < B := by omega
  have HF1 := Lib.hid ((Fr.refl B w).alloc hbw (.cells #[.map (some m)] 68))
  have HR1 : Hid (BRow B (w.alloc (.cells #[.map (some m)] 68)) bs v) := Lib.hid (hR.later ((Below.refl _ _).alloc (Nat.le_refl _) _))
  have hbw1 : B ≤ (w.alloc (.cells #[.map (some m)] 68)).heap.size := Nat.le_trans hbw (by simp)
  have HE := Lib.hid he
  have HX1 : Hid (XF B m N b o w.heap.size (21) wd nm p k c (w.alloc (.cells #[.map (some m)] 68))) := Lib.hid
    ⟨heap_alloc_new w _, (HF1.out.1.cell (p := ⟨b, o, none⟩) hbB).trans hc.1, (HF1.out.1.cell (p := ⟨b, o + 1, none⟩) hbB).trans hc.2.1, (HF1.out.1.cell (p := ⟨b, o + 2, none⟩) hbB).trans hc.2.2.1, (HF1.out.1.cell (p := ⟨b, o + 3, none⟩) hbB).trans hc.2.2.2⟩
  obtain ⟨h0, h1, h2, h3⟩ := hc
  have hbz : b < w.heap.size := by omega
  clear hR he
  have HIH := Lib.hid (fun v bs w h1 h2 h3 h4 => list_step n ih l hls hm p c N B m v bs w hN h1 h2 h3 h4)
  have HXl := Lib.hid (fun w' (h : Fr B w w') => hin.later (h.1.mono hN) (Nat.le_refl _))
  have HL2 := Lib.hid (show (bs ++ [112, 105, 99, 107]).length + ([40] ++ Lib.join l.texts [44, 32] ++ [41]).length ≤ 1000000000 by simp only [List.length_append, List.length_cons, List.length_nil] at hl ⊢; omega)
  have HL1 := Lib.hid (show bs.length + (⟨#[112, 105, 99, 107]⟩ : ByteArray).size ≤ 1000000000 by simp only [List.length_append, List.length_cons, List.length_nil] at hl; show bs.length + 4 ≤ _; omega)
  clear ih hin
  subst hk
  go_enter Tryz.func80, Tryz.ntmps80
  go_wp2_with fail
  obtain ⟨w1, hw1⟩ : ∃ w1, w.alloc (.cells #[.map (some m)] 68) = w1 := ⟨_, rfl⟩
  rw [hw1] at HR1 HX1 HF1 hbw1 ⊢
  clear hw1 h0 h1 h2 h3
  obtain ⟨z0, z1, z2, z3⟩ := HX1.out.S
  go_region_held3 (fun W => W.cell? ⟨w.heap.size, 0, none⟩ = some (.map (some m)) ∧ W.cell? ⟨b, o, none⟩ = some (.int .i64 21) ∧ W.cell? ⟨b, o + 2, none⟩ = some (.string (str nm)) ∧ W.cell? ⟨b, o + 3, none⟩ = some (.slice p l.len c))
    (first | go_keep | assumption)
    (first
      | (refine step_str (B := B) (bs := bs) (s := ⟨#[112, 105, 99, 107]⟩) (w := w1.drew) rfl (.tmp 68) (.const (.string ⟨#[112, 105, 99, 107]⟩)) rfl (by rfl) (HR1.out.later (Below.refl _ _).drew) hbw1 HL1.out (by rfl) ?_
         intro v3 w3 hR3 hF3
         have HF3 := Lib.hid (HF1.out.drew.trans hF3)
         have HX3 := Lib.hid ((HX1.out.later hbB ((Fr.refl _ _).drew)).later hbB hF3)
         have hS3 := HX3.out.S)
      | (go_at_call 120
         refine (HIH.out _ _ _ (HXl.out _ HF3.out) (HE.out.later HF3.out.1) hR3 HL2.out).mono ?_
         rintro e w4 ⟨⟨v4, rfl, hR4⟩, hF4⟩
         have hS4 := (HX3.out.later hbB hF4).S))
  have HR4 := Lib.hid hR4
  have HF4 := Lib.hid (HF3.out.trans hF4)
  clear hR4 hF4 hS4 hR3 hF3 hS3
  go_wp2_with fail
  go_ret
  exact ⟨⟨v4, rfl, by have h := HR4.out; simpa using h⟩, HF4.out⟩

set_option maxRecDepth 100000 in
set_option maxHeartbeats 3200000 in
theorem expr_two (b o N B m : Nat) (v : Value) (bs : List UInt8) (w : World) (hb : b < N) (hN : N ≤ B) (he : TEnv B m w) (hR : BRow B w bs v) (wd : Nat) (nm : List UInt8) (p : Option Addr) (k c : Nat) (n : Nat) (ih : TellTo n) (x y : Ex) (hxs : x.size < n) (hmx : x.may = true) (hys : y.size < n) (hmy : y.may = true) (op : Int) (ho : 6 ≤ op ∧ op ≤ 20) (hk : k = 2) (hsub : ∃ b2 o2, p = some ⟨b2, o2, none⟩ ∧ b2 < N ∧ x.At w N b2 o2 ∧ y.At w N b2 (o2 + 4))
    (hc : w.cell? ⟨b, o, none⟩ = some (.int .i64 op) ∧ w.cell? ⟨b, o + 1, none⟩ = some (.int .u64 (wd : Int)) ∧ w.cell? ⟨b, o + 2, none⟩ = some (.string (str nm)) ∧ w.cell? ⟨b, o + 3, none⟩ = some (.slice p k c))
    (hl : bs.length + ([40] ++ x.text ++ [32] ++ signOf op ++ [32] ++ y.text ++ [41]).length ≤ 1000000000) :
    Calls Tryz.prog 80 #[.agg #[.map (some m)], v, .pointer (some ⟨b, o, none⟩)] w fun e w' => (∃ v', e = .returned v' ∧ BRow B w' (bs ++ ([40] ++ x.text ++ [32] ++ signOf op ++ [32] ++ y.text ++ [41])) v') ∧ Fr B w w' := by
  obtain ⟨i0, hi, hz0, hz1, hz2⟩ := info_parts'
  have hbw := he.bw
  have hbB : b < B := by omega
  have HF1 := Lib.hid ((Fr.refl B w).alloc hbw (.cells #[.map (some m)] 68))
  have HR1 : Hid (BRow B (w.alloc (.cells #[.map (some m)] 68)) bs v) := Lib.hid (hR.later ((Below.refl _ _).alloc (Nat.le_refl _) _))
  have hbw1 : B ≤ (w.alloc (.cells #[.map (some m)] 68)).heap.size := Nat.le_trans hbw (by simp)
  have HE := Lib.hid he
  have HX1 : Hid (XF B m N b o w.heap.size (op) wd nm p k c (w.alloc (.cells #[.map (some m)] 68))) := Lib.hid
    ⟨heap_alloc_new w _, (HF1.out.1.cell (p := ⟨b, o, none⟩) hbB).trans hc.1, (HF1.out.1.cell (p := ⟨b, o + 1, none⟩) hbB).trans hc.2.1, (HF1.out.1.cell (p := ⟨b, o + 2, none⟩) hbB).trans hc.2.2.1, (HF1.out.1.cell (p := ⟨b, o + 3, none⟩) hbB).trans hc.2.2.2⟩
  obtain ⟨h0, h1, h2, h3⟩ := hc
  have hbz : b < w.heap.size := by omega
  clear hR he
  obtain ⟨b2, o2, rfl, hb2, hx2, hy2⟩ : ∃ b2 o2, p = some ⟨b2, o2, none⟩ ∧ b2 < N ∧ x.At w N b2 o2 ∧ y.At w N b2 (o2 + 4) := hsub
  have HIX := Lib.hid (fun v bs w h1 h2 h3 h4 => ih x hxs hmx b2 o2 N B m v bs w hb2 hN h1 h2 h3 h4)
  have HIY := Lib.hid (fun v bs w h1 h2 h3 h4 => ih y hys hmy b2 (o2 + 4) N B m v bs w hb2 hN h1 h2 h3 h4)
  have HXx := Lib.hid (fun w' (h : Fr B w w') => Ex.At.later (h.1.mono hN) (Nat.le_refl _) x b2 o2 hb2 hx2)
  have HXy := Lib.hid (fun w' (h : Fr B w w') => Ex.At.later (h.1.mono hN) (Nat.le_refl _) y b2 (o2 + 4) hb2 hy2)
  simp only [List.length_append, List.length_cons, List.length_nil] at hl
  have HL1 := Lib.hid (show bs.length ≤ 1000000000 by omega)
  have HL2 := Lib.hid (show (bs ++ [40]).length + x.text.length ≤ 1000000000 by simp only [List.length_append, List.length_cons, List.length_nil]; omega)
  have HL3 := Lib.hid (show (bs ++ [40] ++ x.text).length + 1 ≤ 1000000000 by simp only [List.length_append, List.length_cons, List.length_nil]; omega)
  have HL4 := Lib.hid (show (bs ++ [40] ++ x.text ++ [32]).length + (str (signOf op)).size ≤ 1000000000 by rw [size_str]; simp only [List.length_append, List.length_cons, List.length_nil]; omega)
  have HL5 := Lib.hid (show (bs ++ [40] ++ x.text ++ [32] ++ signOf op).length ≤ 1000000000 by simp only [List.length_append, List.length_cons, List.length_nil]; omega)
  have HL6 := Lib.hid (show (bs ++ [40] ++ x.text ++ [32] ++ signOf op ++ [32]).length + y.text.length ≤ 1000000000 by simp only [List.length_append, List.length_cons, List.length_nil]; omega)
  have HL7 := Lib.hid (show (bs ++ [40] ++ x.text ++ [32] ++ signOf op ++ [32] ++ y.text).length + 1 ≤ 1000000000 by simp only [List.length_append, List.length_cons, List.length_nil]; omega)
  have t1 : (op == 1) = false := by simp; omega
  have t2 : (op == 2) = false := by simp; omega
  have t3 : (op == 3) = false := by simp; omega
  have t4 : (op == 4) = false := by simp; omega
  have t5 : (op == 5) = false := by simp; omega
  have t21 : (op == 21) = false := by simp; omega
  have HSg := Lib.hid (show fval signT op = .agg #[.string (str (signOf op))] by
    rcases ho with ⟨h1, h2⟩
    have : op = 6 ∨ op = 7 ∨ op = 8 ∨ op = 9 ∨ op = 10 ∨ op = 11 ∨ op = 12 ∨ op = 13 ∨ op = 14 ∨ op = 15 ∨ op = 16 ∨ op = 17 ∨ op = 18 ∨ op = 19 ∨ op = 20 := by omega
    rcases this with rfl | rfl | rfl | rfl | rfl | rfl | rfl | rfl | rfl | rfl | rfl | rfl | rfl | rfl | rfl <;> rfl)
  have hzv : ∀ w, (zeroValue 152).run Tryz.prog w = .ok (.agg #[.string ⟨#[]⟩]) w := fun _ => by kernel_rfl
  clear ih hx2 hy2 hl
  subst hk
  go_enter Tryz.func80, Tryz.ntmps80
  go_wp2_with fail
  obtain ⟨w1, hw1⟩ : ∃ w1, w.alloc (.cells #[.map (some m)] 68) = w1 := ⟨_, rfl⟩
  rw [hw1] at HR1 HX1 HF1 hbw1 ⊢
  clear hw1 h0 h1 h2 h3
  obtain ⟨z0, z1, z2, z3⟩ := HX1.out.S
  go_region_held3 (fun W => W.cell? ⟨w.heap.size, 0, none⟩ = some (.map (some m)) ∧ W.cell? ⟨b, o, none⟩ = some (.int .i64 op) ∧ W.cell? ⟨b, o + 2, none⟩ = some (.string (str nm)) ∧ W.cell? ⟨b, o + 3, none⟩ = some (.slice (some ⟨b2, o2, none⟩) 2 c))
    (first | go_keep | assumption)
    (first
      | (refine step_byte (B := B) (bs := bs) (c := 40) (w := w1.drew) rfl (.tmp 76) (.tmp 77) rfl (by rfl) (HR1.out.later (Below.refl _ _).drew) hbw1 HL1.out (by rfl) ?_
         intro v3a w3a hRa hFa
         have HF3a := Lib.hid (HF1.out.drew.trans hFa)
         have HX3a := Lib.hid ((HX1.out.later hbB ((Fr.refl _ _).drew)).later hbB hFa)
         have hSa := HX3a.out.S)
      | (go_at_call 80
         refine (HIX.out _ _ _ (HXx.out _ HF3a.out) (HE.out.later HF3a.out.1) hRa HL2.out).mono ?_
         rintro e w3 ⟨⟨v3, rfl, hRb⟩, hFb⟩
         have hSb := (HX3a.out.later hbB hFb).S))
  have HR3 := Lib.hid hRb
  have HF3 := Lib.hid (HF3a.out.trans hFb)
  have HX3 := Lib.hid (HX3a.out.later hbB hFb)
  have hbw3 := Nat.le_trans hbw HF3.out.1.size
  clear hRb hFb hSb hRa hFa hSa
  obtain ⟨ly2, hly2⟩ : ∃ l, bs ++ [40] ++ x.text = l := ⟨_, rfl⟩
  have HLy2 := Lib.hid hly2
  rw [hly2] at HR3 HL3
  clear hly2
  have hown_ := HR3.out
  unfold BRow at hown_
  go_wp2_with (at_builtin; refine wpList_append_T _ rfl _ _ 83 rfl B 5 i0 Tryz.underlying83 hi hz0 hz1 hz2 _ _ _ rfl (hown_.alloc _) ⟨w3.heap.size, 0, none⟩ 1 1 [.int .u8 32] rfl rfl ?y2a ?y2b ?y2c ?y2d ?y2e ?_)
  case y2a => intro j u hj; match j, hj with
    | 0, hj => simp at hj; subst hj; simp [go_sem, Addr.add]
  case y2b => intro u hu; simp at hu; subst hu; rfl
  case y2c => have := HL3.out; unfold maxLen; omega
  case y2d => have := HL3.out; omega
  case y2e => exact Nat.le_trans hbw3 (by simp)
  intro v5 w5 hown hgrow
  have hap := brow_app (c := 32) HR3.out hbw3 hown hgrow
  have HR5 := Lib.hid hap.1
  have HF5a := Lib.hid hap.2
  clear hown hgrow hap hown_
  rw [← HLy2.out] at HR5
  have HF5 := Lib.hid (HF3.out.trans HF5a.out)
  have HX5 := Lib.hid (HX3.out.later hbB HF5a.out)
  have hbw5 := Nat.le_trans hbw HF5.out.1.size
  clear z0 z1 z2 z3
  obtain ⟨z0, z1, z2, z3⟩ := HX5.out.S
  have hmp := (HE.out.later HF5.out.1).mp
  have hfd := fun w => run_sign_field (str (signOf op)) w
  have hlk : ∀ W : World, W.heap[m]? = some (fmap signT) → (Instr.lookup 66 (.map (some m)) (.int .i64 op) false).run Tryz.prog W = .ok (.agg #[.string (str (signOf op))]) W := fun W h => by rw [run_look1_fmap Tryz.underlying66 Tryz.underlying22 hzv signT h op, HSg.out]
  clear HF5a hzv
  go_wp2_with fail
  go_region_held3 (fun W => W.cell? ⟨w.heap.size, 0, none⟩ = some (.map (some m)) ∧ W.cell? ⟨b, o, none⟩ = some (.int .i64 op) ∧ W.heap[m]? = some (fmap signT))
    (first | ((try dsimp only); exact ⟨by assumption, by assumption, by assumption⟩) | assumption | go_keep)
    (first
    | (refine step_str (B := B) (bs := bs ++ [40] ++ x.text ++ [32]) (s := str (signOf op)) (w := w5.drew) rfl (.tmp 88) (.tmp 96) rfl (by rfl) (HR5.out.later (Below.refl _ _).drew) hbw5 HL4.out (by rfl) ?_
       intro v6 w6 hR6 hF6
       have hX6 := (HX5.out.later hbB ((Fr.refl _ _).drew)).later hbB hF6
       have hS6 : w6.cell? ⟨w.heap.size, 0, none⟩ = some (.map (some m)) ∧ w6.cell? ⟨b, o, none⟩ = some (.int .i64 op) ∧ w6.heap[m]? = some (fmap signT) := ⟨hX6.S.1, hX6.S.2.1, (HE.out.later (HF5.out.drew.trans hF6).1).mp⟩))
  rw [str_data] at hR6
  have HR6 := Lib.hid hR6
  have HF6 := Lib.hid (HF5.out.drew.trans hF6)
  have HX6 := Lib.hid hX6
  have hbw6 := Nat.le_trans hbw HF6.out.1.size
  clear hR6 hF6 hX6 hS6 hlk hmp hfd z0 z1 z2 z3
  obtain ⟨z0, z1, z2, z3⟩ := HX6.out.S
  go_wp2_with fail
  go_region_held3 (fun W => W.cell? ⟨w.heap.size, 0, none⟩ = some (.map (some m)) ∧ W.cell? ⟨b, o, none⟩ = some (.int .i64 op) ∧ W.cell? ⟨b, o + 2, none⟩ = some (.string (str nm)) ∧ W.cell? ⟨b, o + 3, none⟩ = some (.slice (some ⟨b2, o2, none⟩) 2 c))
    (first | go_keep | assumption)
    (first
      | (refine step_byte (B := B) (bs := bs ++ [40] ++ x.text ++ [32] ++ signOf op) (c := 32) (w := w6.drew) rfl (.tmp 99) (.tmp 100) rfl (by rfl) (HR6.out.later (Below.refl _ _).drew) hbw6 HL5.out (by rfl) ?_
         intro v7a w7a hRa hFa
         have HF7a := Lib.hid (HF6.out.drew.trans hFa)
         have HX7a := Lib.hid ((HX6.out.later hbB ((Fr.refl _ _).drew)).later hbB hFa)
         have hSa := HX7a.out.S)
      | (go_at_call 80
         refine (HIY.out _ _ _ (HXy.out _ HF7a.out) (HE.out.later HF7a.out.1) hRa HL6.out).mono ?_
         rintro e w7 ⟨⟨v7, rfl, hRb⟩, hFb⟩
         have hSb := (HX7a.out.later hbB hFb).S))
  have HR7 := Lib.hid hRb
  have HF7 := Lib.hid (HF7a.out.trans hFb)
  have HX7 := Lib.hid (HX7a.out.later hbB hFb)
  have hbw7 := Nat.le_trans hbw HF7.out.1.size
  clear hRb hFb hSb hRa hFa hSa
  obtain ⟨ly3, hly3⟩ : ∃ l, bs ++ [40] ++ x.text ++ [32] ++ signOf op ++ [32] ++ y.text = l := ⟨_, rfl⟩
  have HLy3 := Lib.hid hly3
  rw [hly3] at HR7 HL7
  clear hly3
  have hown_ := HR7.out
  unfold BRow at hown_
  go_wp2_with (at_builtin; refine wpList_append_T _ rfl _ _ 83 rfl B 5 i0 Tryz.underlying83 hi hz0 hz1 hz2 _ _ _ rfl (hown_.alloc _) ⟨w7.heap.size, 0, none⟩ 1 1 [.int .u8 41] rfl rfl ?y3a ?y3b ?y3c ?y3d ?y3e ?_)
  case y3a => intro j u hj; match j, hj with
    | 0, hj => simp at hj; subst hj; simp [go_sem, Addr.add]
  case y3b => intro u hu; simp at hu; subst hu; rfl
  case y3c => have := HL7.out; unfold maxLen; omega
  case y3d => have := HL7.out; omega
  case y3e => exact Nat.le_trans hbw7 (by simp)
  intro v9 w9 hown hgrow
  have hap := brow_app (c := 41) HR7.out hbw7 hown hgrow
  have HR9 := Lib.hid hap.1
  have HF9 := Lib.hid hap.2
  clear hown hgrow hap hown_
  rw [← HLy3.out] at HR9
  go_wp2_with fail
  go_ret
  exact ⟨⟨v9, rfl, by have h := HR9.out; simpa using h⟩, HF7.out.trans HF9.out⟩

end Go.Proofs.YtlhbledakddbbaaGreatDoor
/- Which expressions may be: the document's mayExpr, MayExpr. -/
namespace Go.Proofs.YtlhbledakddbbaaGreatDoor
open Go.RowKit

def argsR (op : Int) : Int := if op = 4 ∨ op = 5 then 1 else if 6 ≤ op ∧ op ≤ 20 then 2 else if op = 21 then 3 else -1
theorem argsR_of {op : Int} (h : 4 ≤ op) (h2 : op ≤ 21) : argsR op = (argsN op : Int) := by
  unfold argsR argsN
  repeat' split
  all_goals omega
theorem argsR_no {op : Int} (h : op < 4 ∨ 21 < op) : argsR op = -1 := by unfold argsR; rw [if_neg (by omega), if_neg (by omega), if_neg (by omega)]
set_option maxHeartbeats 1600000 in
theorem rargs_any (op : Int) (w : World) : Calls Tryz.prog 82 #[.int .i64 op] w fun e w' => e = .returned (.int .i64 (argsR op)) ∧ w = w' := by
  by_cases h4 : op = 4
  · subst h4
    go_enter Tryz.func82, Tryz.ntmps82
    go_wp2_with fail
    go_ret
    exact ⟨rfl, rfl⟩
  by_cases h5 : op = 5
  · subst h5
    go_enter Tryz.func82, Tryz.ntmps82
    go_wp2_with fail
    go_ret
    exact ⟨rfl, rfl⟩
  have t4 : (op == 4) = false := by simp; exact h4
  have t5 : (op == 5) = false := by simp; exact h5
  by_cases h6 : 6 ≤ op
  · by_cases h20 : op ≤ 20
    · have HF := Lib.hid (show argsR op = 2 by unfold argsR; rw [if_neg (by omega), if_pos (by omega)])
      rw [HF.out]
      go_enter Tryz.func82, Tryz.ntmps82
      go_wp2_with fail
      go_ret
      exact ⟨rfl, rfl⟩
    · by_cases h21 : op = 21
      · subst h21
        go_enter Tryz.func82, Tryz.ntmps82
        go_wp2_with fail
        go_ret
        exact ⟨rfl, rfl⟩
      · have t21 : (op == 21) = false := by simp; exact h21
        rw [argsR_no (by omega)]
        go_enter Tryz.func82, Tryz.ntmps82
        go_wp2_with fail
        go_ret
        exact ⟨rfl, rfl⟩
  · have t21 : (op == 21) = false := by simp; omega
    rw [argsR_no (by omega)]
    go_enter Tryz.func82, Tryz.ntmps82
    go_wp2_with fail
    go_ret
    exact ⟨rfl, rfl⟩
theorem Exs.may_nil {a : Exs} (h : a.len = 0) : a.may = true := by cases a with | nil => rfl | cons => simp [Exs.len] at h
def RM (n : Nat) : Prop := ∀ x : Ex, x.size < n → ∀ (p : Option Addr) (c N : Nat) (w : World), x.Ok w N p → N ≤ w.heap.size →
    Calls Tryz.prog 39 #[x.val p c] w fun e w' => e = .returned (.bool x.may) ∧ Below w.heap.size w w'
set_option maxRecDepth 100000 in
set_option maxHeartbeats 6400000 in
theorem rm_step (n : Nat) (ih : RM n) : RM (n + 1) := by
  intro x hxs p c N w hx hN
  obtain ⟨op, wd, nm, ar⟩ := x
  simp only [Ex.size] at hxs
  have hin := hx.1
  simp only [Ex.args] at hin
  have hm := hin.1
  have hB1 : Below w.heap.size w (w.alloc (.cells #[.int .i64 op, .int .u64 (wd : Int), .string (str nm), .slice p ar.len c] 26)) := (Below.refl _ _).alloc (Nat.le_refl _) _
  have HB1 := Lib.hid hB1
  have HX := Lib.hid (fun w1 hb => cells_later (w0 := w.alloc (.cells #[.int .i64 op, .int .u64 (wd : Int), .string (str nm), .slice p ar.len c] 26)) (w1 := w1) (b := w.heap.size) (A := #[.int .i64 op, .int .u64 (wd : Int), .string (str nm), .slice p ar.len c]) (t := 26) (heap_alloc_new w _) hb)
  have HIN := Lib.hid (fun (w1 : World) (hb : Below w.heap.size w w1) => hin.later (hb.mono hN) (Nat.le_trans hN hb.size))
  have HAr := Lib.hid (fun w => rargs_any op w)
  have HNm := Lib.hid (fun w => rnm_any (str nm) w)
  rw [str_data] at HNm
  have IH := Lib.hid ih
  rw [show (Ex.mk op wd nm ar).may = (decide (ar.len = argsN op) && ar.may && okOp op wd nm) by rw [Ex.may]]
  unfold Ex.val
  simp only [Ex.op, Ex.word, Ex.name, Ex.args]
  clear ih hin hB1 hx hN
  have es : ((str nm).toList == []) = nm.isEmpty := str_empty nm
  have es2 : (str nm).toList.isEmpty = nm.isEmpty := by rw [Lib.toList_data, str_data]
  have ew : (((wd : Nat) : Int) == 0) = decide (wd = 0) := nat_zero wd
  have ew2 : (((wd : Nat) : Int) != 0) = !decide (wd = 0) := by rw [← ew]; rfl
  by_cases o1 : op = 1
  · subst o1
    rw [argsR_no (by omega)] at HAr
    by_cases hl : ar.len = 0
    · have HF := Lib.hid (show nm.isEmpty = (decide (ar.len = argsN 1) && ar.may && okOp 1 wd nm) by rw [Exs.may_nil hl, hl, okOp_1]; simp [argsN])
      generalize nm.isEmpty = em at es es2 HF
      have e0 : ((ar.len : Int) == 0) = true := by simp [hl]
      clear hl
      cases em
      go_enter Tryz.func39, Tryz.ntmps39
      go_wp2_with fail
      refine (HAr.out _).mono ?_
      rintro e w' ⟨rfl, rfl⟩
      go_wp2_with fail
      go_ret
      exact ⟨ret_bool HF.out, HB1.out⟩
      go_enter Tryz.func39, Tryz.ntmps39
      go_wp2_with fail
      refine (HAr.out _).mono ?_
      rintro e w' ⟨rfl, rfl⟩
      go_wp2_with fail
      go_ret
      exact ⟨ret_bool HF.out, HB1.out⟩
    · have HF := Lib.hid (show false = (decide (ar.len = argsN 1) && ar.may && okOp 1 wd nm) by rw [decide_eq_false (by simpa [argsN] using hl)]; rfl)
      generalize nm.isEmpty = em at es es2
      have e0 : ((ar.len : Int) == 0) = false := by simp [hl]
      clear hl
      cases em
      go_enter Tryz.func39, Tryz.ntmps39
      go_wp2_with fail
      refine (HAr.out _).mono ?_
      rintro e w' ⟨rfl, rfl⟩
      go_wp2_with fail
      go_ret
      exact ⟨ret_bool HF.out, HB1.out⟩
      go_enter Tryz.func39, Tryz.ntmps39
      go_wp2_with fail
      refine (HAr.out _).mono ?_
      rintro e w' ⟨rfl, rfl⟩
      go_wp2_with fail
      go_ret
      exact ⟨ret_bool HF.out, HB1.out⟩
  by_cases o23 : op = 2 ∨ op = 3
  · have HF0 := Lib.hid (okOp_23 o23 wd nm)
    have har : argsR op = -1 := argsR_no (by omega)
    rw [har] at HAr
    cases hnb : nameB nm with
    | false =>
      rw [hnb] at HNm
      have HF := Lib.hid (show false = (decide (ar.len = argsN op) && ar.may && okOp op wd nm) by rw [HF0.out, hnb]; simp)
      clear hnb har
      rcases o23 with rfl | rfl
      all_goals
        go_enter Tryz.func39, Tryz.ntmps39
        go_wp2_with fail
        refine (HAr.out _).mono ?_
        rintro e w' ⟨rfl, rfl⟩
        go_wp2_with fail
        refine (HNm.out _).mono ?_
        rintro e wn ⟨rfl, hB⟩
        have HD := Lib.hid hB
        have HBn := Lib.hid (HB1.out.trans (hB.mono HB1.out.size))
        clear hB
        go_wp2_with fail
        go_ret
        exact ⟨ret_bool HF.out, HBn.out⟩
    | true =>
      rw [hnb] at HNm
      cases hz : decide (wd = 0) with
      | false =>
        have HF := Lib.hid (show false = (decide (ar.len = argsN op) && ar.may && okOp op wd nm) by rw [HF0.out, hz]; simp)
        rw [hz] at ew ew2
        clear hz hnb har
        rcases o23 with rfl | rfl
        · go_enter Tryz.func39, Tryz.ntmps39
          go_wp2_with fail
          refine (HAr.out _).mono ?_
          rintro e w' ⟨rfl, rfl⟩
          go_wp2_with fail
          refine (HNm.out _).mono ?_
          rintro e wn ⟨rfl, hB⟩
          have HD := Lib.hid hB
          have HBn := Lib.hid (HB1.out.trans (hB.mono HB1.out.size))
          clear hB
          have c1 : wn.cell? ⟨w.heap.size, 1, none⟩ = some (.int .u64 (wd : Int)) := HX.out _ HD.out 1 _ rfl
          go_wp2_with fail
          go_ret
          exact ⟨ret_bool HF.out, HBn.out⟩
        · go_enter Tryz.func39, Tryz.ntmps39
          go_wp2_with fail
          refine (HAr.out _).mono ?_
          rintro e w' ⟨rfl, rfl⟩
          go_wp2_with fail
          refine (HNm.out _).mono ?_
          rintro e wn ⟨rfl, hB⟩
          have HD := Lib.hid hB
          have HBn := Lib.hid (HB1.out.trans (hB.mono HB1.out.size))
          clear hB
          have c1 : wn.cell? ⟨w.heap.size, 1, none⟩ = some (.int .u64 (wd : Int)) := HX.out _ HD.out 1 _ rfl
          go_wp2_with fail
          go_ret
          exact ⟨ret_bool HF.out, HBn.out⟩
      | true =>
        rw [hz] at ew ew2
        rcases o23 with rfl | rfl
        · by_cases hl : ar.len = 0
          · have HF := Lib.hid (show true = (decide (ar.len = argsN 2) && ar.may && okOp 2 wd nm) by rw [HF0.out, hz, hnb, Exs.may_nil hl, hl]; rfl)
            have e0 : ((ar.len : Int) == 0) = true := by simp [hl]
            clear hl hz hnb har
            go_enter Tryz.func39, Tryz.ntmps39
            go_wp2_with fail
            refine (HAr.out _).mono ?_
            rintro e w' ⟨rfl, rfl⟩
            go_wp2_with fail
            refine (HNm.out _).mono ?_
            rintro e wn ⟨rfl, hB⟩
            have HD := Lib.hid hB
            have HBn := Lib.hid (HB1.out.trans (hB.mono HB1.out.size))
            clear hB
            have c1 : wn.cell? ⟨w.heap.size, 1, none⟩ = some (.int .u64 (wd : Int)) := HX.out _ HD.out 1 _ rfl
            have c3 : wn.cell? ⟨w.heap.size, 3, none⟩ = some (.slice p ar.len c) := HX.out _ HD.out 3 _ rfl
            go_wp2_with fail
            go_ret
            exact ⟨ret_bool HF.out, HBn.out⟩
          · have HF := Lib.hid (show false = (decide (ar.len = argsN 2) && ar.may && okOp 2 wd nm) by rw [decide_eq_false (by simpa [argsN] using hl)]; rfl)
            have e0 : ((ar.len : Int) == 0) = false := by simp [hl]
            clear hl hz hnb har
            go_enter Tryz.func39, Tryz.ntmps39
            go_wp2_with fail
            refine (HAr.out _).mono ?_
            rintro e w' ⟨rfl, rfl⟩
            go_wp2_with fail
            refine (HNm.out _).mono ?_
            rintro e wn ⟨rfl, hB⟩
            have HD := Lib.hid hB
            have HBn := Lib.hid (HB1.out.trans (hB.mono HB1.out.size))
            clear hB
            have c1 : wn.cell? ⟨w.heap.size, 1, none⟩ = some (.int .u64 (wd : Int)) := HX.out _ HD.out 1 _ rfl
            have c3 : wn.cell? ⟨w.heap.size, 3, none⟩ = some (.slice p ar.len c) := HX.out _ HD.out 3 _ rfl
            go_wp2_with fail
            go_ret
            exact ⟨ret_bool HF.out, HBn.out⟩
        · by_cases hl : ar.len = 1
          · obtain ⟨y, rfl⟩ := Exs.one hl
            simp only [Exs.size] at hxs
            have HF := Lib.hid (show y.may = (decide ((Exs.cons y .nil).len = argsN 3) && (Exs.cons y .nil).may && okOp 3 wd nm) by rw [HF0.out, hz, hnb]; simp [Exs.may, Exs.len, argsN])
            have e0 : (((Exs.cons y .nil).len : Int) == 1) = true := by simp [Exs.len]
            have hlp : 0 < (Exs.cons y .nil).len := by simp [Exs.len]
            clear hl hz hnb har
            go_enter Tryz.func39, Tryz.ntmps39
            go_wp2_with fail
            refine (HAr.out _).mono ?_
            rintro e w' ⟨rfl, rfl⟩
            go_wp2_with fail
            refine (HNm.out _).mono ?_
            rintro e wn ⟨rfl, hB⟩
            have HD := Lib.hid hB
            have HBn := Lib.hid (HB1.out.trans (hB.mono HB1.out.size))
            clear hB
            obtain ⟨b2, o2, hp2, hb2, hy2⟩ := Exs.In.some' (l := .cons y .nil) (HIN.out wn HBn.out) (by simp [Exs.len])
            subst hp2
            have c1 : wn.cell? ⟨w.heap.size, 1, none⟩ = some (.int .u64 (wd : Int)) := HX.out _ HD.out 1 _ rfl
            have c3 : wn.cell? ⟨w.heap.size, 3, none⟩ = some (.slice (some ⟨b2, o2, none⟩) (Exs.cons y .nil).len c) := HX.out _ HD.out 3 _ rfl
            obtain ⟨q, cq, d0, d1, d2, d3, hok⟩ := hy2.1.open'
            have HC := Lib.hid (IH.out y (by omega) q cq wn.heap.size wn hok (Nat.le_refl _))
            unfold Ex.val at HC
            generalize y.may = v at HC HF
            clear hok hy2
            go_wp2_with fail
            refine HC.out.mono ?_
            rintro e w3 ⟨rfl, hB⟩
            have HB3 := Lib.hid (HBn.out.trans (hB.mono HBn.out.size))
            clear hB
            go_wp2_with fail
            go_ret
            exact ⟨ret_bool HF.out, HB3.out⟩
          · have HF := Lib.hid (show false = (decide (ar.len = argsN 3) && ar.may && okOp 3 wd nm) by rw [decide_eq_false (by simpa [argsN] using hl)]; rfl)
            have e0 : ((ar.len : Int) == 1) = false := by simp; omega
            clear hl hz hnb har
            go_enter Tryz.func39, Tryz.ntmps39
            go_wp2_with fail
            refine (HAr.out _).mono ?_
            rintro e w' ⟨rfl, rfl⟩
            go_wp2_with fail
            refine (HNm.out _).mono ?_
            rintro e wn ⟨rfl, hB⟩
            have HD := Lib.hid hB
            have HBn := Lib.hid (HB1.out.trans (hB.mono HB1.out.size))
            clear hB
            have c1 : wn.cell? ⟨w.heap.size, 1, none⟩ = some (.int .u64 (wd : Int)) := HX.out _ HD.out 1 _ rfl
            have c3 : wn.cell? ⟨w.heap.size, 3, none⟩ = some (.slice p ar.len c) := HX.out _ HD.out 3 _ rfl
            go_wp2_with fail
            go_ret
            exact ⟨ret_bool HF.out, HBn.out⟩
  have t1 : (op == 1) = false := by simp; exact o1
  have t2 : (op == 2) = false := by simp; omega
  have t3 : (op == 3) = false := by simp; omega
  by_cases hop : 4 ≤ op ∧ op ≤ 21
  · rw [argsR_of hop.1 hop.2] at HAr
    have HF0 := Lib.hid (okOp_4 hop.1 hop.2 wd nm)
    clear hop o1 o23
    by_cases hl : ar.len = argsN op
    · have HL := Lib.hid hl
      have hl' : ((ar.len : Int) != (argsN op : Int)) = false := by simp [hl]
      have hn0 : ¬ ((argsN op : Int) < 0) := by omega
      generalize hem : nm.isEmpty = em at es es2
      cases em with
      | false =>
        have HF := Lib.hid (show false = (decide (ar.len = argsN op) && ar.may && okOp op wd nm) by rw [HF0.out, hem]; simp)
        clear hem hl
        generalize argsN op = an at HAr HF hl' hn0
        clear HL
        go_enter Tryz.func39, Tryz.ntmps39
        go_wp2_with fail
        refine (HAr.out _).mono ?_
        rintro e w' ⟨rfl, rfl⟩
        go_wp2_with fail
        go_ret
        exact ⟨ret_bool HF.out, HB1.out⟩
      | true =>
        generalize hz : decide (wd = 0) = z at ew ew2
        cases z with
        | false =>
          have HF := Lib.hid (show false = (decide (ar.len = argsN op) && ar.may && okOp op wd nm) by rw [HF0.out, hz]; simp)
          clear hem hl hz
          generalize argsN op = an at HAr HF hl' hn0
          clear HL
          go_enter Tryz.func39, Tryz.ntmps39
          go_wp2_with fail
          refine (HAr.out _).mono ?_
          rintro e w' ⟨rfl, rfl⟩
          go_wp2_with fail
          go_ret
          exact ⟨ret_bool HF.out, HB1.out⟩
        | true =>
          have HF := Lib.hid (show ar.may = (decide (ar.len = argsN op) && ar.may && okOp op wd nm) by rw [HF0.out, hz, hem, decide_eq_true hl]; simp)
          clear hem hl hz HL
          generalize argsN op = an at HAr HF hl' hn0
          go_enter Tryz.func39, Tryz.ntmps39
          go_wp2_with fail
          refine (HAr.out _).mono ?_
          rintro e w' ⟨rfl, rfl⟩
          go_wp2_with fail
          obtain ⟨W1, hW1⟩ : ∃ W1, w.alloc (.cells #[.int .i64 op, .int .u64 (wd : Int), .string (str nm), .slice p ar.len c] 26) = W1 := ⟨_, rfl⟩
          rw [hW1] at HB1 HX
          rw [hW1]
          clear hW1
          go_loopw [4] (fun i wr => ∃ (k : Nat) (r : Exs), i = .int .i64 k ∧ k + r.len = ar.len ∧ r.size ≤ n ∧ Hid (∀ b o, p = some ⟨b, o, none⟩ → ar.At W1 W1.heap.size b o → r.At W1 W1.heap.size b (o + k * 4)) ∧ Hid (ar.may = r.may) ∧ Hid (Below W1.heap.size W1 wr)) (fun i _ => ar.len - (intOf i).toNat)
          case atStart => exact ⟨0, ar, rfl, by omega, by omega, Lib.hid fun b o _ h => by rw [Nat.zero_mul]; exact h, Lib.hid rfl, Lib.hid (Below.refl _ _)⟩
          case round =>
            obtain ⟨k, r, rfl, hk, hrs, hat, hE, HD⟩ := hrel
            have c3 : wr.cell? ⟨w.heap.size, 3, none⟩ = some (.slice p ar.len c) := HX.out _ HD.out 3 _ rfl
            cases r with
            | nil =>
              simp only [Exs.len] at hk
              have hge : ¬ k < ar.len := by omega
              have HF2 := Lib.hid (show true = (decide (ar.len = an) && ar.may && okOp op wd nm) by rw [← HF.out, hE.out]; rfl)
              go_wp2_with fail
              go_ret
              exact ⟨ret_bool HF2.out, HB1.out.trans (HD.out.mono HB1.out.size)⟩
            | cons y r =>
              simp only [Exs.len] at hk
              simp only [Exs.size] at hrs
              have hlt : k < ar.len := by omega
              rcases (HIN.out W1 HB1.out).2 with h30 | ⟨b, o, rfl, hb, ha⟩
              · omega
              obtain ⟨hy, hr⟩ := hat.out b o rfl ha
              have HR := Lib.hid hr
              obtain ⟨q, cq, d0, d1, d2, d3, hok⟩ := (Ex.At.later HD.out HD.out.size y b _ hb hy).open'
              have HC := Lib.hid (IH.out y (by omega) q cq wr.heap.size wr hok (Nat.le_refl _))
              have HM := Lib.hid (show ar.may = (y.may && r.may) by rw [hE.out, Exs.may])
              unfold Ex.val at HC
              generalize y.may = v at HC HM
              clear hok hy hr ha hat
              cases v with
              | true =>
                go_wp2_with fail
                refine HC.out.mono ?_
                rintro e w3 ⟨rfl, hB⟩
                have HB3 := Lib.hid (HD.out.trans (hB.mono HD.out.size))
                clear hB HC d0 d1 d2 d3
                go_wp2_with fail
                go_roundw
                case rel => exact ⟨k + 1, r, by go_num, by omega, by omega, Lib.hid fun b' o' hbo _ => by cases hbo; rw [show o + (k + 1) * 4 = o + k * 4 + 4 by omega]; exact HR.out, Lib.hid (by rw [HM.out]; rfl), HB3⟩
                case measure => simp [intOf]; omega
              | false =>
                have HF2 := Lib.hid (show false = (decide (ar.len = an) && ar.may && okOp op wd nm) by rw [← HF.out, HM.out]; rfl)
                go_wp2_with fail
                refine HC.out.mono ?_
                rintro e w3 ⟨rfl, hB⟩
                have HB3 := Lib.hid (HD.out.trans (hB.mono HD.out.size))
                clear hB HC d0 d1 d2 d3
                go_wp2_with fail
                go_ret
                exact ⟨ret_bool HF2.out, HB1.out.trans (HB3.out.mono HB1.out.size)⟩
    · have HF := Lib.hid (show false = (decide (ar.len = argsN op) && ar.may && okOp op wd nm) by rw [decide_eq_false hl]; rfl)
      have hl' : ((ar.len : Int) != (argsN op : Int)) = true := by simp; omega
      have hn0 : ¬ ((argsN op : Int) < 0) := by omega
      clear hl
      generalize argsN op = an at HAr HF hl' hn0
      go_enter Tryz.func39, Tryz.ntmps39
      go_wp2_with fail
      refine (HAr.out _).mono ?_
      rintro e w' ⟨rfl, rfl⟩
      go_wp2_with fail
      go_ret
      exact ⟨ret_bool HF.out, HB1.out⟩
  · have har : argsR op = -1 := argsR_no (by omega)
    rw [har] at HAr
    have HF := Lib.hid (show false = (decide (ar.len = argsN op) && ar.may && okOp op wd nm) by rw [okOp_no (by omega)]; simp)
    clear hop o1 o23 har
    go_enter Tryz.func39, Tryz.ntmps39
    go_wp2_with fail
    refine (HAr.out _).mono ?_
    rintro e w' ⟨rfl, rfl⟩
    go_wp2_with fail
    go_ret
    exact ⟨ret_bool HF.out, HB1.out⟩
theorem rm_to : ∀ n, RM n
  | 0 => fun _ h => absurd h (Nat.not_lt_zero _)
  | n + 1 => rm_step n (rm_to n)
theorem rmayExpr_any (x : Ex) (p : Option Addr) (c N : Nat) (w : World) (h : x.Ok w N p) (hN : N ≤ w.heap.size) :
    Calls Tryz.prog 39 #[x.val p c] w fun e w' => e = .returned (.bool x.may) ∧ Below w.heap.size w w' :=
  rm_to _ x (Nat.lt_succ_self _) p c N w h hN
end Go.Proofs.YtlhbledakddbbaaGreatDoor
/- Expr: an expression's text, or why there is none. -/
namespace Go.Proofs.YtlhbledakddbbaaGreatDoor
open Go.RowKit

theorem may_parts {op : Int} {wd : Nat} {nm : List UInt8} {ar : Exs} (h : (Ex.mk op wd nm ar).may = true) : ar.len = argsN op ∧ ar.may = true ∧ okOp op wd nm = true := by
  rw [Ex.may, Bool.and_eq_true, Bool.and_eq_true, decide_eq_true_eq] at h
  exact ⟨h.1.1, h.1.2, h.2⟩
theorem tell_step (n : Nat) (ih : TellTo n) : TellTo (n + 1) := by
  intro x hxs hm b o N B m v bs w hb hN hx he hR hl
  obtain ⟨op, wd, nm, ar⟩ := x
  obtain ⟨hlen, hma, hok⟩ := may_parts hm
  obtain ⟨⟨h0, h1, h2, h3⟩, ⟨p, c, h4, s4⟩⟩ := hx
  simp only [Ex.size] at hxs
  have hop : op = 1 ∨ op = 2 ∨ op = 3 ∨ op = 4 ∨ op = 5 ∨ op = 21 ∨ (6 ≤ op ∧ op ≤ 20) := by
    rcases Int.lt_or_le op 1 with h | h
    · rw [okOp_no (by omega)] at hok; cases hok
    · rcases Int.lt_or_le 21 op with h' | h'
      · rw [okOp_no (by omega)] at hok; cases hok
      · omega
  have one : ar.len = 1 → ∃ y, ar = .cons y .nil ∧ y.size < n ∧ y.may = true ∧ ∃ b2 o2, p = some ⟨b2, o2, none⟩ ∧ b2 < N ∧ y.At w N b2 o2 := fun h => by
    obtain ⟨y, rfl⟩ := Exs.one h
    simp only [Exs.size] at hxs
    rw [Exs.may, Bool.and_eq_true] at hma
    obtain ⟨b2, o2, e1, e2, e3⟩ := Exs.In.some' (l := .cons y .nil) s4 (by simp [Exs.len])
    exact ⟨y, rfl, by omega, hma.1, b2, o2, e1, e2, e3.1⟩
  rcases hop with rfl | rfl | rfl | rfl | rfl | rfl | hop
  · exact expr_const b o N B m v bs w hb hN he hR wd nm p ar.len c h3 ⟨h0, h1, h2, h4⟩ hl
  · exact expr_var b o N B m v bs w hb hN he hR wd nm p ar.len c ⟨h0, h1, h2, h4⟩ hl
  · obtain ⟨y, rfl, hys, hym, hsub⟩ := one hlen
    exact expr_index b o N B m v bs w hb hN he hR wd nm p _ c n ih y hys hym rfl hsub ⟨h0, h1, h2, h4⟩ hl
  · obtain ⟨y, rfl, hys, hym, hsub⟩ := one hlen
    exact expr_not b o N B m v bs w hb hN he hR wd nm p _ c n ih y hys hym rfl hsub ⟨h0, h1, h2, h4⟩ hl
  · obtain ⟨y, rfl, hys, hym, hsub⟩ := one hlen
    exact expr_neg b o N B m v bs w hb hN he hR wd nm p _ c n ih y hys hym rfl hsub ⟨h0, h1, h2, h4⟩ hl
  · exact expr_pick b o N B m v bs w hb hN he hR wd nm p _ c n ih ar (by omega) hma rfl s4 ⟨h0, h1, h2, h4⟩ hl
  · have h2' : ar.len = 2 := by rw [hlen, argsN, if_neg (by omega), if_pos hop]
    obtain ⟨y, z, rfl⟩ := Exs.two h2'
    simp only [Exs.size] at hxs
    rw [Exs.may, Exs.may, Bool.and_eq_true, Bool.and_eq_true] at hma
    obtain ⟨b2, o2, e1, e2, e3⟩ := Exs.In.some' (l := .cons y (.cons z .nil)) s4 (by simp [Exs.len])
    have ht : (Ex.mk op wd nm (.cons y (.cons z .nil))).text = [40] ++ y.text ++ [32] ++ signOf op ++ [32] ++ z.text ++ [41] := by
      rw [Ex.text, textOf, if_neg (by omega), if_neg (by omega), if_neg (by omega), if_neg (by omega), if_neg (by omega), if_neg (by omega)]; rfl
    rw [ht] at hl ⊢
    exact expr_two b o N B m v bs w hb hN he hR wd nm p _ c n ih y z (by omega) hma.1 (by omega) hma.2.1 op hop rfl ⟨b2, o2, e1, e2, e3.1, e3.2.1⟩ ⟨h0, h1, h2, h4⟩ hl
theorem tell_to : ∀ n, TellTo n
  | 0 => fun _ h => absurd h (Nat.not_lt_zero _)
  | n + 1 => tell_step n (tell_to n)

/-- the library's table lies there, and stays -/
def Glob (w : World) : Prop := Lib.TabBelow Tryz.prog w.heap.size w "internal/strconv.uint64pow10" .u64 Lib.pow10Tab
theorem Glob.later {w w' : World} (h : Glob w) (hB : Below w.heap.size w w') : Glob w' := fun w2 h2 => h w2 (hB.trans (h2.mono hB.size))

set_option maxRecDepth 100000 in
set_option maxHeartbeats 1600000 in
theorem newTeller_any (w : World) : Calls Tryz.prog 36 #[] w fun e w' => ∃ m, e = .returned (.agg #[.map (some m)]) ∧ w'.heap[m]? = some (fmap signT) ∧ Below w.heap.size w w' := by
  have HC := Lib.hid (signs_any (w.alloc (.cells #[.map none] 68)))
  go_enter Tryz.func36, Tryz.ntmps36
  go_wp2_with fail
  refine HC.out.mono ?_
  rintro e w2 ⟨m, rfl, hmp, hmb, hB2⟩
  have hg : w2.heap[w.heap.size]? = some (.cells #[.map none] 68 (0, 0)) := (hB2.block _ (by simp)).trans (heap_alloc_new w _)
  have c0 := cell_of_one hg
  have z0 := free_of_one hg
  have HM := Lib.hid (And.intro hmp hmb)
  have HB := Lib.hid (((Below.refl _ w).alloc (Nat.le_refl _) (.cells #[.map none] 68)).trans (hB2.mono (by simp)))
  clear hmp hmb hB2 hg
  go_wp2_with fail
  have hc := World.cell?_setCell_same w2 ⟨w.heap.size, 0, none⟩ (.map (some m)) c0
  refine bodyPost_ret (v := .agg #[.map (some m)]) (by simp [results, Tryz.results36, go_sem, hc]) rfl ⟨m, rfl, ?_, HB.out.setCell (Nat.le_refl _) _⟩
  rw [Below.heap_setCell _ _ _ _ (by have := HM.out.2; simp at this; show m ≠ w.heap.size; omega)]
  exact HM.out.1

set_option maxRecDepth 100000 in
set_option maxHeartbeats 1600000 in
theorem exprText_any (x : Ex) (hm : x.may = true) (b o m : Nat) (w : World) (hb : b < w.heap.size) (hx : x.At w w.heap.size b o) (hmp : w.heap[m]? = some (fmap signT)) (hG : Glob w) (hl : x.text.length ≤ 1000000000) :
    Calls Tryz.prog 37 #[.agg #[.map (some m)], .pointer (some ⟨b, o, none⟩)] w fun e w' => e = .returned (.string (str x.text)) ∧ Below w.heap.size w w' := by
  have hB1 : Below w.heap.size w (w.alloc (.cells #[.map (some m)] 68)) := (Below.refl _ _).alloc (Nat.le_refl _) _
  have HB1 := Lib.hid hB1
  have HC := Lib.hid (tell_to _ x (Nat.lt_succ_self _) hm b o w.heap.size w.heap.size m (.slice none 0 0) [] (w.alloc (.cells #[.map (some m)] 68)) hb (Nat.le_refl _) (Ex.At.later hB1 (Nat.le_refl _) x b o hb hx)
    ⟨(hB1.block m (lt_of_block hmp)).trans hmp, lt_of_block hmp, fun w2 h2 => hG w2 (hB1.trans h2), by simp⟩ (BRow.nil _ _) (by simpa using hl))
  clear hx hmp hG hB1
  go_enter Tryz.func37, Tryz.ntmps37
  go_wp2_with fail
  refine HC.out.mono ?_
  rintro e w2 ⟨⟨v, rfl, hR⟩, hF⟩
  have hcv := BRow.conv hR
  have HF := Lib.hid (HB1.out.trans hF.1)
  clear hR hF
  go_wp2_with fail
  go_ret
  exact ⟨rfl, HF.out⟩

def exprR (x : Ex) : List UInt8 := if 64 < x.depth ∨ x.may = false then [] else if 65536 < x.text.length then [] else x.text
def exprE (x : Ex) : Nat := if 64 < x.depth ∨ x.may = false then 2 else if 65536 < x.text.length then 3 else 0

set_option maxRecDepth 100000 in
set_option maxHeartbeats 3200000 in
theorem expr_any (x : Ex) (p : Option Addr) (c N : Nat) (w : World) (hx6 : x.size ≤ 1000000) (h : x.Ok w N p) (hN : N ≤ w.heap.size) (hG : Glob w) (hl : x.may = true → x.text.length ≤ 1000000000) :
    Calls Tryz.prog 10 #[x.val p c] w fun e w' => e = .returned (.tuple #[.string (str (exprR x)), .int .i64 (exprE x)]) ∧ Below w.heap.size w w' := by
  obtain ⟨w1, hw1⟩ : ∃ w1, w.alloc (.cells #[.int .i64 x.op, .int .u64 (x.word : Int), .string (str x.name), .slice p x.args.len c] 26) = w1 := ⟨_, rfl⟩
  have hB1 : Below w.heap.size w w1 := by rw [← hw1]; exact (Below.refl _ _).alloc (Nat.le_refl _) _
  have hAt : x.At w1 (w.heap.size + 1) w.heap.size 0 := by rw [← hw1]; exact Ex.At.new h hN
  have hz1 : w1.heap.size = w.heap.size + 1 := by rw [← hw1]; simp
  have hOk1 := h.later (hB1.mono hN) (Nat.le_refl _)
  have e0 : w1.heap[w.heap.size]? = some (.cells #[.int .i64 x.op, .int .u64 (x.word : Int), .string (str x.name), .slice p x.args.len c] 26 (0, 0)) := by rw [← hw1]; exact heap_alloc_new w _
  have HG1 := Lib.hid (hG.later hB1)
  have HD := Lib.hid (depth_any x hx6 p c N w1 hOk1 (by omega))
  have HM := Lib.hid (fun w2 (hB : Below w1.heap.size w1 w2) => mayExpr_any x p c N w2 (by have := hB.size; omega) (hOk1.later (hB.mono (by omega)) (Nat.le_refl _)))
  have HAt := Lib.hid (fun w2 (hB : Below w1.heap.size w1 w2) => (Ex.At.later (hB.mono (by omega)) (by have := hB.size; omega) x w.heap.size 0 (by omega) hAt : x.At w2 w2.heap.size w.heap.size 0))
  have c0 : w1.cell? ⟨w.heap.size, 0, none⟩ = some (.int .i64 x.op) := by simp [World.cell?, e0]
  have c1 : w1.cell? ⟨w.heap.size, 1, none⟩ = some (.int .u64 (x.word : Int)) := by simp [World.cell?, e0]
  have c2 : w1.cell? ⟨w.heap.size, 2, none⟩ = some (.string (str x.name)) := by simp [World.cell?, e0]
  have c3 : w1.cell? ⟨w.heap.size, 3, none⟩ = some (.slice p x.args.len c) := by simp [World.cell?, e0]
  have HB1 := Lib.hid hB1
  have HZ := Lib.hid hz1
  unfold Ex.val at HD HM ⊢
  have HR0 : Hid ((64 < x.depth ∨ x.may = false) → exprR x = [] ∧ exprE x = 2) := Lib.hid (fun h => by rw [exprR, exprE, if_pos h, if_pos h]; exact ⟨rfl, rfl⟩)
  have HR1 : Hid (¬ (64 < x.depth ∨ x.may = false) → exprR x = (if 65536 < x.text.length then [] else x.text) ∧ exprE x = (if 65536 < x.text.length then 3 else 0)) := Lib.hid (fun h => by rw [exprR, exprE, if_neg h, if_neg h]; exact ⟨rfl, rfl⟩)
  have HX6 := Lib.hid hl
  have HT : Hid (x.may = true → ∀ (m : Nat) (w2 : World), Below w1.heap.size w1 w2 → w2.heap[m]? = some (fmap signT) → Calls Tryz.prog 37 #[.agg #[.map (some m)], .pointer (some ⟨w.heap.size, 0, none⟩)] w2 fun e w' => e = .returned (.string (str x.text)) ∧ Below w2.heap.size w2 w') := Lib.hid (fun hm m w2 hB hmp =>
    exprText_any x hm w.heap.size 0 m w2 (by have := hB.size; omega) (HAt.out w2 hB) hmp (HG1.out.later hB) (hl hm))
  clear h hG hAt hOk1 hB1 e0 hl
  obtain ⟨d, hd⟩ : ∃ d, x.depth = d := ⟨_, rfl⟩
  obtain ⟨mb, hmb⟩ : ∃ mb, x.may = mb := ⟨_, rfl⟩
  obtain ⟨tx, htx⟩ : ∃ tx, x.text = tx := ⟨_, rfl⟩
  have hdl : d ≤ 1000000 := by rw [← hd]; exact Nat.le_trans (Ex.depth_le x) hx6
  rw [hd, hmb] at HR0 HR1
  rw [hd] at HD
  rw [hmb] at HM HT
  rw [htx] at HR1 HT
  have hszx := size_str tx
  clear hd hmb htx hx6
  go_enter Tryz.func10, Tryz.ntmps10
  go_wp2_with fail
  refine HD.out.mono ?_
  rintro e w2 ⟨rfl, hB2⟩
  have d0 := (hB2.cell (p := ⟨w.heap.size, 0, none⟩) (by show w.heap.size < _; omega)).trans c0
  have d1 := (hB2.cell (p := ⟨w.heap.size, 1, none⟩) (by show w.heap.size < _; omega)).trans c1
  have d2 := (hB2.cell (p := ⟨w.heap.size, 2, none⟩) (by show w.heap.size < _; omega)).trans c2
  have d3 := (hB2.cell (p := ⟨w.heap.size, 3, none⟩) (by show w.heap.size < _; omega)).trans c3
  have HB2 := Lib.hid hB2
  clear hB2
  by_cases h64 : 64 < d
  · have HF := Lib.hid (HR0.out (.inl h64))
    go_wp2_with fail
    go_ret2
    exact ⟨by rw [HF.out.1, HF.out.2]; rfl, HB1.out.trans (HB2.out.mono (by have := HZ.out; omega))⟩
  · have HM2 := Lib.hid (HM.out w2 HB2.out)
    cases mb
    · have HF := Lib.hid (HR0.out (.inr rfl))
      go_wp2_with fail
      refine HM2.out.mono ?_
      rintro e w3 ⟨rfl, hB3⟩
      have HB3 := Lib.hid (HB2.out.trans (hB3.mono HB2.out.size))
      clear hB3
      go_wp2_with fail
      go_ret2
      exact ⟨by rw [HF.out.1, HF.out.2]; rfl, HB1.out.trans (HB3.out.mono (by have := HZ.out; omega))⟩
    · have HF := Lib.hid (HR1.out (by simp; omega))
      go_wp2_with fail
      refine HM2.out.mono ?_
      rintro e w3 ⟨rfl, hB3⟩
      have HB3 := Lib.hid (HB2.out.trans (hB3.mono HB2.out.size))
      clear hB3
      go_wp2_with fail
      refine (newTeller_any _).mono ?_
      rintro e w4 ⟨m, rfl, hmp, hB4⟩
      have hB4' := HB3.out.trans (hB4.mono HB3.out.size)
      have HT4 := Lib.hid (HT.out trivial m w4 hB4' hmp)
      have HB4 := Lib.hid hB4'
      clear hB4 hmp hB4'
      go_wp2_with fail
      refine HT4.out.mono ?_
      rintro e w5 ⟨rfl, hB5⟩
      have HB5 := Lib.hid (HB4.out.trans (hB5.mono HB4.out.size))
      clear hB5
      by_cases hlong : 65536 < tx.length
      · have HF2 := HF.out
        rw [if_pos hlong, if_pos hlong] at HF2
        have HF2 := Lib.hid HF2
        go_wp2_with fail
        go_ret2
        exact ⟨by rw [HF2.out.1, HF2.out.2]; rfl, HB1.out.trans (HB5.out.mono (by have := HZ.out; omega))⟩
      · have HF2 := HF.out
        rw [if_neg hlong, if_neg hlong] at HF2
        have HF2 := Lib.hid HF2
        go_wp2_with fail
        go_ret2
        exact ⟨by rw [HF2.out.1, HF2.out.2]; rfl, HB1.out.trans (HB5.out.mono (by have := HZ.out; omega))⟩
end Go.Proofs.YtlhbledakddbbaaGreatDoor
/- FormatUint, at base 10. -/
namespace Go.Proofs.YtlhbledakddbbaaGreatDoor
open Go.RowKit Go.Sort Go.Lib

set_option maxHeartbeats 12800000 in
set_option maxRecDepth 100000 in
theorem innerFormatUint_any (u : Nat) (hu64 : u < 18446744073709551616) (w : World) (hG : Glob w) :
    Calls Tryz.prog 83 #[.int .u64 u, .int .i64 10] w fun e w' => e = .returned (.string (str (Lib.decDigits u))) ∧ Below w.heap.size w w' := by
  have htab := hG.here
  by_cases hu : u < 100
  · go_enter Tryz.func83, Tryz.ntmps83
    go_wp2_with (go_at_call 121; refine (Tryz.internal_strconv_small u hu _).mono ?_; rintro e w' ⟨rfl, rfl⟩)
    go_ret
    exact ⟨rfl, Below.refl _ _⟩
  · have hu1 : 1 ≤ u := by omega
    have hnd20 : Lib.nDigits u ≤ 20 := by have := Lib.numDigits_eq u hu1 hu64; split at this <;> omega
    have hal : Tryz.prog.arrayLen 156 = 24 := by simp [Program.arrayLen, Tryz.underlying156]
    have hsl : ∀ W, (Instr.sliceAt 156 (.pointer (some ⟨w.heap.size, 0, none⟩)) none (some (.int .i64 (Lib.nDigits u : Int))) none).run Tryz.prog W = .ok (.slice (some ⟨w.heap.size, 0, none⟩) (Lib.nDigits u) 24) W := fun W => by
      rw [run_sliceAt_array_h W 156 ⟨w.heap.size, 0, none⟩ (by simp [Program.arrayLen, Program.elem, Tryz.underlying156]) .i64 (Lib.nDigits u : Int) (by omega) (by rw [hal]; omega)]
      go_simp
    have hH0 := Lib.holds_zero0 w 156 (Lib.nDigits u) (by omega)
    have hfmt := Tryz.internal_strconv_formatBase10 w.heap.size 0 24 u (Array.replicate (Lib.nDigits u) 0) (w.alloc (.cells Lib.zeros24 156)) hH0 (by rw [Array.size_replicate]; exact Lib.lt_pow_nDigits u) hu64 (by rw [Array.size_replicate]; omega)
    rw [Array.size_replicate] at hfmt
    have HH0 := Lib.hid hH0
    have iu : (100 : Int) ≤ (u : Int) := by omega
    clear hH0 hal
    go_enter Tryz.func83, Tryz.ntmps83
    go_wp2_with (first
      | (go_at_call 122; refine (Tryz.internal_strconv_numDigits u hu1 hu64 _ (Lib.tabIs_alloc htab _)).mono ?_; rintro e w' ⟨rfl, rfl⟩))
    refine hfmt.mono ?_
    rintro e w' ⟨rfl, k, v', dk, rfl, hF⟩
    have hcv : (convert 83 9 (.slice (some ⟨w.heap.size, 0, none⟩) (Lib.nDigits u) 24)).run Tryz.prog ((putRow (fun (b : UInt8) => Value.int .u8 (b.toNat : Int)) (w.alloc (.cells Lib.zeros24 156)) w.heap.size 0 dk).drewN k) = .ok (.string (str (Lib.decDigits u))) ((putRow (fun (b : UInt8) => Value.int .u8 (b.toNat : Int)) (w.alloc (.cells Lib.zeros24 156)) w.heap.size 0 dk).drewN k) := by
      have h := run_convert_bytes_back (P := Tryz.prog) ((putRow (fun (b : UInt8) => Value.int .u8 (b.toNat : Int)) (w.alloc (.cells Lib.zeros24 156)) w.heap.size 0 dk).drewN k) 83 9 5 ⟨w.heap.size, 0, none⟩ 24 (Lib.decDigits u) Tryz.underlying83 Tryz.underlying5 Tryz.underlying9 (fun j hj => by
        rw [Lib.row_is_numeral hF j hj, Lib.add_plain, World.cell?_drewN]
        exact cell?_putRow (fun (b : UInt8) => Value.int .u8 (b.toNat : Int)) _ w.heap.size 0 _ dk HH0.out (by rw [hF.size, Array.size_replicate]) j (by rw [hF.size]; rw [Lib.decDigits_length] at hj; exact hj))
      rw [Lib.decDigits_length] at h
      exact h
    obtain ⟨os, eo⟩ := Lib.fin_at w (.cells Lib.zeros24 156) dk k 0
    have hnx2 : Below w.heap.size w ((putRow (fun (b : UInt8) => Value.int .u8 (b.toNat : Int)) (w.alloc (.cells Lib.zeros24 156)) w.heap.size 0 dk).drewN k) := by rw [eo]; exact Lib.below_grow w.heap.size w (Nat.le_refl _) k os
    have HB := Lib.hid hnx2
    generalize (putRow (fun (b : UInt8) => Value.int .u8 (b.toNat : Int)) (w.alloc (.cells Lib.zeros24 156)) w.heap.size 0 dk).drewN k = W2 at hcv HB ⊢
    clear eo HH0 hfmt hF hnx2
    go_wp2_with fail
    go_ret
    exact ⟨rfl, HB.out⟩
theorem formatUint_any (u : Nat) (hu64 : u < 18446744073709551616) (w : World) (hG : Glob w) :
    Calls Tryz.prog 40 #[.int .u64 u, .int .i64 10] w fun e w' => e = .returned (.string (str (Lib.decDigits u))) ∧ Below w.heap.size w w' := by
  have HC := Lib.hid (innerFormatUint_any u hu64 w hG)
  go_enter Tryz.func40, Tryz.ntmps40
  go_wp2_with fail
  refine HC.out.mono ?_
  rintro e w' ⟨rfl, hB⟩
  go_wp2_with fail
  go_ret
  exact ⟨rfl, hB⟩
end Go.Proofs.YtlhbledakddbbaaGreatDoor
/- The document's Sign. -/
namespace Go.Proofs.YtlhbledakddbbaaGreatDoor
open Go.RowKit

def hasSign (o : Int) : Bool := (fat signT o).isSome
def signL : Array Value := #[.string ⟨#[43]⟩, .string ⟨#[45]⟩, .string ⟨#[42]⟩, .string ⟨#[38]⟩, .string ⟨#[124]⟩, .string ⟨#[94]⟩, .string ⟨#[60, 60]⟩, .string ⟨#[62, 62]⟩, .string ⟨#[62, 62, 62]⟩, .string ⟨#[60, 60, 60]⟩, .string ⟨#[62, 62, 62, 62]⟩, .string ⟨#[61, 61]⟩, .string ⟨#[33, 61]⟩, .string ⟨#[60]⟩, .string ⟨#[60, 61]⟩]
theorem fifteen {o : Int} (h1 : 6 ≤ o) (h2 : o ≤ 20) : o = 6 ∨ o = 7 ∨ o = 8 ∨ o = 9 ∨ o = 10 ∨ o = 11 ∨ o = 12 ∨ o = 13 ∨ o = 14 ∨ o = 15 ∨ o = 16 ∨ o = 17 ∨ o = 18 ∨ o = 19 ∨ o = 20 := by omega
theorem sign_cell {o : Int} (h1 : 6 ≤ o) (h2 : o ≤ 20) : signL[(o - 6).toNat]? = some (.string (str (signOf o))) := by
  rcases fifteen h1 h2 with rfl | rfl | rfl | rfl | rfl | rfl | rfl | rfl | rfl | rfl | rfl | rfl | rfl | rfl | rfl <;> rfl
theorem fat_none {o : Int} (h : o < 6 ∨ 20 < o) : fat signT o = none := by
  have hn : ∀ (l : List (Int × List UInt8)), (∀ x ∈ l, x.1 ≠ o) → fat l o = none := fun l => by
    induction l with
    | nil => intro _; rfl
    | cons x l ih =>
      intro h
      have h1 := h x (List.mem_cons_self ..)
      have h2 := ih fun y hy => h y (List.mem_cons_of_mem _ hy)
      simp [fat, h2, Ne.symm h1]
  refine hn _ ?_
  intro x hx
  have hx' : x.1 ∈ signT.map (·.1) := List.mem_map.2 ⟨x, hx, rfl⟩
  have : signT.map (·.1) = [6, 7, 8, 9, 10, 11, 12, 13, 14, 15, 16, 17, 18, 19, 20] := rfl
  rw [this] at hx'
  simp at hx'
  omega
theorem no_sign {o : Int} (h : o < 6 ∨ 20 < o) : hasSign o = false ∧ signOf o = [] := by
  unfold hasSign signOf
  rw [fat_none h]
  exact ⟨rfl, rfl⟩

set_option maxHeartbeats 1600000 in
theorem refSign_any (o : Int) (w : World) (h1 : -9223372036854775808 ≤ o) (h2 : o < 9223372036854775808) : Calls Tryz.prog 41 #[.int .i64 o] w fun e w' => e = .returned (.string (str (signOf o))) ∧ Below w.heap.size w w' := by
  have HB := Lib.hid (show Below w.heap.size w (w.alloc (.cells signL 9)) from (Below.refl _ w).alloc (Nat.le_refl _) _)
  by_cases h : o < 6 ∨ 20 < o
  · have hs := (no_sign h).2
    rw [hs]
    have hb : (decide (o < 6) || decide (20 < o)) = true := by simpa using h
    by_cases h6 : o < 6
    · go_enter Tryz.func41, Tryz.ntmps41
      go_wp2_with fail
      go_ret
      exact ⟨rfl, HB.out⟩
    · have h20 : 20 < o := by omega
      go_enter Tryz.func41, Tryz.ntmps41
      go_wp2_with fail
      go_ret
      exact ⟨rfl, HB.out⟩
  · have g6 : ¬ o < 6 := fun h' => h (.inl h')
    have g20 : ¬ 20 < o := fun h' => h (.inr h')
    have hc : (w.alloc (.cells signL 9)).cell? ⟨w.heap.size, (o - 6).toNat, none⟩ = some (.string (str (signOf o))) := by
      rw [World.cell?_alloc_new]; exact sign_cell (by omega) (by omega)
    obtain ⟨w1, hw1⟩ : ∃ w1, w.alloc (.cells signL 9) = w1 := ⟨_, rfl⟩
    rw [hw1] at hc HB
    unfold signL at hw1
    have hw : IntKind.i64.wrap (o - 6) = o - 6 := by simp [IntKind.wrap, IntKind.bits, IntKind.signed]; omega
    have b0 : (0 : Int) ≤ o - 6 := by omega
    have b1 : o - 6 < 15 := by omega
    go_enter Tryz.func41, Tryz.ntmps41
    go_wp2_with fail
    go_ret
    exact ⟨rfl, HB.out⟩
end Go.Proofs.YtlhbledakddbbaaGreatDoor
