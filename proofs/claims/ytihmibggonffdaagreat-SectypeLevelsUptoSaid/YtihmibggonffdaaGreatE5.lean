/- M4, E1, E2, E3, E4, E5 as one. -/
import Derived.Test.YtihmibggonffdaaGreatM3
import Derived.Deep.RegionWith
import Derived.Laws.EntriesVeiled
/- What asks of names, one behind the other. -/
namespace Go.Proofs.YtihmibggonffdaaGreat
open Go.RowKit

structure But (g : Nat) (w w' : World) : Prop where
 os : w'.os = w.os
 tape : w'.tape = w.tape
 output : w'.output = w.output
 size : w.heap.size ≤ w'.heap.size
 block : ∀ k, k < w.heap.size → k ≠ g → w'.heap[k]? = w.heap[k]?
theorem But.refl (g : Nat) (w : World) : But g w w := ⟨rfl, rfl, rfl, Nat.le_refl _, fun _ _ _ => rfl⟩
theorem But.trans {g : Nat} {a b c : World} (h : But g a b) (k : But g b c) : But g a c :=
 ⟨k.os.trans h.os, k.tape.trans h.tape, k.output.trans h.output, Nat.le_trans h.size k.size, fun i hi hn => (k.block i (Nat.lt_of_lt_of_le hi h.size) hn).trans (h.block i hi hn)⟩
theorem But.of_below {g : Nat} {w w' : World} (h : Below w.heap.size w w') : But g w w' := ⟨h.os, h.tape, h.output, h.size, fun k hk _ => h.block k hk⟩
theorem But.below {g B : Nat} {a w w' : World} (h : Below B a w) (hb : But g w w') (hg : B ≤ g) (hz : B ≤ w.heap.size) : Below B a w' :=
 ⟨hb.os.trans h.os, hb.tape.trans h.tape, hb.output.trans h.output, Nat.le_trans h.size hb.size, fun k hk => (hb.block k (Nat.lt_of_lt_of_le hk hz) (by omega)).trans (h.block k hk)⟩
theorem cell_blk {w : World} {g : Nat} {A : Array Value} {t : TypeId} {fz : Nat × Nat} (h : w.heap[g]? = some (.cells A t fz)) {j : Nat} {v : Value} (hv : A[j]? = some v) : w.cell? ⟨g, j, none⟩ = some v := by
 simp [World.cell?, h, hv]
theorem lt_blk {w : World} {g : Nat} {o : Obj} (h : w.heap[g]? = some o) : g < w.heap.size := (Array.getElem?_eq_some_iff.1 h).1

theorem Cm.but {w w' : World} {b g : Nat} {f : List UInt8 → Nat} (h : Cm w b f) (hB : But g w w') (hg : b ≠ g) : Cm w' b f := h.of_block (hB.block b h.lt hg)
def add (f : List UInt8 → Nat) (s : List UInt8) : List UInt8 → Nat := fun s' => f s' + if s' = s then 1 else 0
def Nm (w : World) (g b : Nat) (f : List UInt8 → Nat) : Prop := w.heap[g]? = some (.cells #[.map (some b)] 111 (0, 0)) ∧ Cm w b f ∧ g ≠ b
theorem Nm.later {w w' : World} {g b : Nat} {f : List UInt8 → Nat} (h : Nm w g b f) (hB : Below w.heap.size w w') : Nm w' g b f := ⟨(hB.block g (lt_blk h.1)).trans h.1, h.2.1.later hB, h.2.2⟩
theorem Nm.but {w w' : World} {g b k : Nat} {f : List UInt8 → Nat} (h : Nm w g b f) (hB : But k w w') (h1 : g ≠ k) (h2 : b ≠ k) : Nm w' g b f := ⟨(hB.block g (lt_blk h.1) h1).trans h.1, h.2.1.but hB h2, h.2.2⟩
def nmFn (g : Nat) : Value := .func (.func 98) #[] #[.pointer (some ⟨g, 0, none⟩)]
theorem names_any (w : World) : Calls Tryz.prog 81 #[] w fun z w' => ∃ g b, z = .returned (nmFn g) ∧ Nm w' g b (fun _ => 0) ∧ w.heap.size ≤ g ∧ w.heap.size ≤ b ∧ Below w.heap.size w w' := by
 have hmm := @run_makeMap Tryz.prog
 go_enter Tryz.func81, Tryz.ntmps81
 go_wp2_with fail
 have hB := ((Below.refl _ w).alloc (Nat.le_refl _) (.map #[] 0)).alloc (by simp) (.cells #[.map (some w.heap.size)] 111)
 have h1 := heap_alloc_new (w.alloc (.map #[] 0)) (.cells #[.map (some w.heap.size)] 111)
 have h2 := (Cm.new w).later ((Below.refl _ _).alloc (Nat.le_refl _) (.cells #[.map (some w.heap.size)] 111))
 go_ret
 exact ⟨w.heap.size + 1, w.heap.size, rfl, ⟨by simpa using h1, h2, by omega⟩, by omega, Nat.le_refl _, hB⟩

theorem zeroInt (w : World) : (zeroValue 3).run Tryz.prog w = .ok (.int .i64 0) w := by kernel_rfl
set_option maxHeartbeats 800000 in
theorem name1_no (s : List UInt8) (g b : Nat) (f : List UInt8 → Nat) (w : World) (h : Nm w g b f) (hn : (nameB s && decide (f s = 0)) = false) :
   Calls Tryz.prog 98 #[.string (str s), .pointer (some ⟨g, 0, none⟩)] w fun z w' => z = Pn 8 ∧ w' = w := by
 have c0 := cell_blk h.1 (j := 0) rfl
 have hlk := h.2.1.look Tryz.underlying111 Tryz.underlying9 zeroInt s
 have HN := Lib.hid (fun w => name_any (str s) w)
 rw [str_data] at HN
 cases hs : nameB s with
 | false =>
   rw [hs] at HN
   go_enter Tryz.func98, Tryz.ntmps98
   go_wp2_with (first | (go_at_call 99; refine (HN.out _).mono ?_; rintro e w' ⟨rfl, rfl⟩) | (go_at_call 79; refine (must_no 8 _).mono ?_; rintro e w' ⟨rfl, rfl⟩; unfold Pn))
   exact ⟨rfl, rfl, rfl⟩
 | true =>
   rw [hs] at HN hn
   have h0 : ((f s : Int) == 0) = false := by simp at hn ⊢; omega
   go_enter Tryz.func98, Tryz.ntmps98
   go_wp2_with (first | (go_at_call 99; refine (HN.out _).mono ?_; rintro e w' ⟨rfl, rfl⟩) | (go_at_call 79; refine (must_no 8 _).mono ?_; rintro e w' ⟨rfl, rfl⟩; unfold Pn))
   exact ⟨rfl, rfl, rfl⟩
set_option maxHeartbeats 800000 in
theorem name1_yes (s : List UInt8) (g b : Nat) (f : List UInt8 → Nat) (w : World) (h : Nm w g b f) (hn : (nameB s && decide (f s = 0)) = true) :
   Calls Tryz.prog 98 #[.string (str s), .pointer (some ⟨g, 0, none⟩)] w fun z w' => z = .returned (.tuple #[]) ∧ Nm w' g b (add f s) ∧ But b w w' := by
 have c0 := cell_blk h.1 (j := 0) rfl
 simp only [Bool.and_eq_true, decide_eq_true_eq] at hn
 have hlk := h.2.1.look Tryz.underlying111 Tryz.underlying9 zeroInt s
 obtain ⟨w2, hup, hc, hz, hb, ho, ht, hp⟩ := h.2.1.put Tryz.underlying111 Tryz.underlying9 s
 rw [hn.2] at hlk hup
 have HR := Lib.hid (show Nm w2 g b (add f s) ∧ But b w w2 from ⟨⟨(hb g h.2.2).trans h.1, hc, h.2.2⟩, ⟨ho, ht, hp, by omega, fun k _ hk => hb k hk⟩⟩)
 have HN := Lib.hid (fun w => name_any (str s) w)
 rw [str_data, hn.1] at HN
 have e0 : ((0 : Nat) : Int) = 0 := rfl
 have e1 : ((0 + 1 : Nat) : Int) = 1 := rfl
 rw [e0] at hlk
 rw [e1] at hup
 clear e0 e1 hc hz hb ho ht hp hn h
 go_enter Tryz.func98, Tryz.ntmps98
 go_wp2_with (first | (go_at_call 99; refine (HN.out _).mono ?_; rintro e w' ⟨rfl, rfl⟩) | (go_at_call 79; refine (must_yes 8 _).mono ?_; rintro e w' ⟨rfl, rfl⟩))

 go_end0
 exact ⟨rfl, HR.out⟩
/- Is an expression nothing; the count. -/
open Go.RowKit

def Ex.isZ (x : Ex) : Bool := (x.op == 0) && (((x.word : Nat) : Int) == 0) && x.name.isEmpty && (((x.args.len : Nat) : Int) == 0)
set_option maxHeartbeats 800000 in
theorem zeroE_any (x : Ex) (N b o : Nat) (w : World) (h : x.At w N b o) :
   Calls Tryz.prog 123 #[.pointer (some ⟨b, o, none⟩)] w fun z w' => z = .returned (.bool x.isZ) ∧ w' = w := by
 obtain ⟨p, c, c0, c1, c2, c3, _⟩ := h.open'
 have e3 : (str x.name).toList.isEmpty = x.name.isEmpty := by rw [Lib.toList_data, str_data]
 unfold Ex.isZ
 generalize e1 : (x.op == 0) = t1
 generalize e2 : (((x.word : Nat) : Int) == 0) = t2
 generalize x.name.isEmpty = t3 at e3
 generalize e4 : (((x.args.len : Nat) : Int) == 0) = t4
 clear h
 cases t1 <;> cases t2 <;> cases t3 <;> cases t4 <;>
 · go_enter Tryz.func123, Tryz.ntmps123
   go_wp2
   go_ret
   exact ⟨rfl, rfl⟩

def Ct (w : World) (g n : Nat) : Prop := w.heap[g]? = some (.cells #[.int .i64 (n : Int)] 3 (0, 0))
theorem Ct.later {w w' : World} {g n : Nat} (h : Ct w g n) (hB : Below w.heap.size w w') : Ct w' g n := (hB.block g (lt_blk h)).trans h
theorem But.set {g : Nat} {a w : World} (h : But g a w) (j : Nat) (v : Value) : But g a (w.setCell ⟨g, j, none⟩ v) :=
 ⟨h.os, h.tape, h.output, by simpa [World.setCell] using h.size, fun k hk hn => (Below.heap_setCell w _ _ _ hn).trans (h.block k hk hn)⟩
theorem heap_setCell_one {w : World} {g : Nat} {u : Value} {t : TypeId} (h : w.heap[g]? = some (.cells #[u] t (0, 0))) (v : Value) : (w.setCell ⟨g, 0, none⟩ v).heap[g]? = some (.cells #[v] t (0, 0)) := by
 rw [setCell_eq_setRow w g 0 _ t (0, 0) _ h]; exact setRow_heap w g _ _ t (0, 0) h
theorem count_yes (g n : Nat) (w : World) (h : Ct w g n) (hn : n < 65536) :
   Calls Tryz.prog 95 #[.pointer (some ⟨g, 0, none⟩)] w fun z w' => z = .returned (.tuple #[]) ∧ Ct w' g (n + 1) ∧ But g w w' := by
 have c0 := cell_blk h (j := 0) rfl
 have f0 : w.frozen? ⟨g, 0, none⟩ = false := by simp [World.frozen?, show w.heap[g]? = _ from h]
 have hw : IntKind.i64.wrap ((n : Int) + 1) = (n : Int) + 1 := by simp [IntKind.wrap, IntKind.bits, IntKind.signed]; omega
 have hle : decide ((n : Int) + 1 ≤ 65536) = true := decide_eq_true (by omega)
 have HR := Lib.hid (show Ct (w.setCell ⟨g, 0, none⟩ (.int .i64 ((n : Int) + 1))) g (n + 1) ∧ But g w (w.setCell ⟨g, 0, none⟩ (.int .i64 ((n : Int) + 1))) from ⟨heap_setCell_one h _, (But.refl g w).set 0 _⟩)
 clear h
 go_enter Tryz.func95, Tryz.ntmps95
 go_wp2_with (go_at_call 79; refine (must_yes 13 _).mono ?_; rintro e w' ⟨rfl, rfl⟩)
 go_end0
 exact ⟨rfl, HR.out⟩
theorem count_no (g : Nat) (w : World) (h : Ct w g 65536) :
   Calls Tryz.prog 95 #[.pointer (some ⟨g, 0, none⟩)] w fun z w' => z = Pn 13 ∧ Ct w' g 65537 ∧ But g w w' := by
 have c0 := cell_blk h (j := 0) rfl
 have f0 : w.frozen? ⟨g, 0, none⟩ = false := by simp [World.frozen?, show w.heap[g]? = _ from h]
 have HR := Lib.hid (show Ct (w.setCell ⟨g, 0, none⟩ (.int .i64 65537)) g 65537 ∧ But g w (w.setCell ⟨g, 0, none⟩ (.int .i64 65537)) from ⟨heap_setCell_one h _, (But.refl g w).set 0 _⟩)
 clear h
 go_enter Tryz.func95, Tryz.ntmps95
 go_wp2_with (go_at_call 79; refine (must_no 13 _).mono ?_; rintro e w' ⟨rfl, rfl⟩; unfold Pn)
 exact ⟨rfl, rfl, HR.out⟩
/- How many expressions there are: what lies within. -/
open Go.RowKit

mutual
def Ex.wc : Ex → Nat → Nat
 | .mk _ _ _ a, deep => 1 + a.wc (deep + 1)
def Exs.wc : Exs → Nat → Nat
 | .nil, _ => 0
 | .cons x r, deep => if 64 < deep then 0 else x.wc deep + r.wc deep
end
theorem Ex.wc_eq (x : Ex) (deep : Nat) : x.wc deep = 1 + x.args.wc (deep + 1) := by obtain ⟨op, wd, nm, ar⟩ := x; rw [Ex.wc]; rfl
theorem Exs.wc_deep : ∀ (l : Exs) (deep : Nat), 64 < deep → l.wc deep = 0
 | .nil, _, _ => by rw [Exs.wc]
 | .cons x r, deep, h => by rw [Exs.wc, if_pos h]
theorem Exs.wc_cons {x : Ex} {r : Exs} {deep : Nat} (h : deep ≤ 64) : (Exs.cons x r).wc deep = 1 + x.args.wc (deep + 1) + r.wc deep := by rw [Exs.wc, if_neg (by omega), Ex.wc_eq]
inductive Cnt (g n t : Nat) (w : World) : Ending → World → Prop where
 | ok {w' : World} (h : n + t ≤ 65536) (hC : Ct w' g (n + t)) (hB : But g w w') : Cnt g n t w (.returned (.tuple #[])) w'
 | no {w' : World} (h : 65536 < n + t) (hC : Ct w' g 65537) (hB : But g w w') : Cnt g n t w (Pn 13) w'
theorem count_any (g n : Nat) (w : World) (h : Ct w g n) (hn : n ≤ 65536) : Calls Tryz.prog 95 #[.pointer (some ⟨g, 0, none⟩)] w (Cnt g n 1 w) := by
 by_cases h1 : n < 65536
 · refine (count_yes g n w h h1).mono ?_
   rintro z w' ⟨rfl, hc, hb⟩
   exact .ok (by omega) hc hb
 · obtain rfl : n = 65536 := by omega
   refine (count_no g w h).mono ?_
   rintro z w' ⟨rfl, hc, hb⟩
   exact .no (by omega) hc hb
def ctFn (g : Nat) : Value := .func (.func 95) #[] #[.pointer (some ⟨g, 0, none⟩)]
def wnFn (sb wb : Nat) : Value := .func (.func 121) #[] #[.pointer (some ⟨sb, 0, none⟩), .pointer (some ⟨wb, 0, none⟩)]
structure Wn (w : World) (g sb wb : Nat) : Prop where
 cs : w.heap[sb]? = some (.cells #[ctFn g] 1 (0, 0))
 cw : w.heap[wb]? = some (.cells #[wnFn sb wb] 162 (0, 0))
 ns : sb ≠ g
 nw : wb ≠ g
theorem Wn.but {w w' : World} {g sb wb : Nat} (h : Wn w g sb wb) (hB : But g w w') : Wn w' g sb wb :=
 ⟨(hB.block _ (lt_blk h.cs) h.ns).trans h.cs, (hB.block _ (lt_blk h.cw) h.nw).trans h.cw, h.ns, h.nw⟩
theorem But.old {g N : Nat} {w w' : World} (h : But g w w') (hg : N ≤ g) (hN : N ≤ w.heap.size) : Below N w w' := (Below.refl N w).trans (But.below (Below.refl N w) h hg hN)

theorem But.drew {g : Nat} {a w : World} (h : But g a w) : But g a w.drew := ⟨h.os, h.tape, h.output, h.size, h.block⟩
def WithinTo (s : Nat) : Prop := ∀ (l : Exs), l.size < s → ∀ (deep : Nat), deep ≤ 65 → ∀ (p : Option Addr) (c N : Nat) (w : World) (n g sb wb : Nat), l.In w N p → N ≤ w.heap.size → N ≤ g → Wn w g sb wb → Ct w g n → n ≤ 65536 →
   Calls Tryz.prog 121 #[.slice p l.len c, .int .i64 (deep : Int), .pointer (some ⟨sb, 0, none⟩), .pointer (some ⟨wb, 0, none⟩)] w (Cnt g n (l.wc deep) w)

set_option maxHeartbeats 3200000 in
theorem within_step (s : Nat) (ih : WithinTo s) : WithinTo (s + 1) := by
 intro l hls deep hd p c N w n g sb wb hl hN hg hW hC hn
 by_cases hdp : 64 < deep
 · rw [Exs.wc_deep l deep hdp]
   have hR := Lib.hid (show Cnt g n 0 w (.returned (.tuple #[])) w from .ok (by omega) hC (But.refl _ _))
   have hi : (64 : Int) < (deep : Int) := by omega
   clear hW hC hl ih
   go_enter Tryz.func121, Tryz.ntmps121
   go_wp2_with fail
   go_end0
   exact hR.out
 have IH := Lib.hid ih
 clear ih
 have hi : ¬ (64 : Int) < (deep : Int) := by omega
 have hwd : IntKind.i64.wrap ((deep : Int) + 1) = ((deep + 1 : Nat) : Int) := by simp [IntKind.wrap, IntKind.bits, IntKind.signed]; omega
 obtain ⟨hm, hs⟩ := hl
 have hstart : ∃ b o, (l.len = 0 ∨ p = some ⟨b, o, none⟩) ∧ (b < N ∨ l.len = 0) ∧ l.At w N b o := by
   rcases hs with h0 | ⟨b, o, hp, hb, ha⟩
   · exact ⟨0, 0, .inl h0, .inr h0, by cases l with | nil => trivial | cons => simp [Exs.len] at h0⟩
   · exact ⟨b, o, .inr hp, .inl hb, ha⟩
 obtain ⟨b, o, hp, hb, ha⟩ := hstart
 have HW := Lib.hid hW
 have HC := Lib.hid hC
 have Hb := Lib.hid hb
 clear hs hW hC hb
 go_enter Tryz.func121, Tryz.ntmps121
 go_wp2_with fail
 go_loopw [11] (fun i wr => ∃ (k v : Nat) (r : Exs), i = .int .i64 k ∧ k + r.len = l.len ∧ r.size ≤ s ∧ v ≤ 65536 ∧ Hid (r.At w N b (o + k * 4)) ∧ Hid (Ct wr g v ∧ But g w wr) ∧ Hid (v + r.wc deep = n + l.wc deep)) (fun i _ => l.len - (intOf i).toNat)
 case atStart => exact ⟨0, n, l, rfl, by omega, by omega, hn, Lib.hid (by rw [Nat.zero_mul]; exact ha), Lib.hid ⟨HC.out, But.refl _ _⟩, Lib.hid rfl⟩
 case round =>
   obtain ⟨k, v, r, rfl, hk, hrs, hv, hr, hCB, hE⟩ := hrel
   cases r with
   | nil =>
     simp only [Exs.len] at hk
     have hge : ¬ k < l.len := by omega
     have hR := Lib.hid (show Cnt g n (l.wc deep) w (.returned (.tuple #[])) wr by
       have h := hE.out
       rw [Exs.wc, Nat.add_zero] at h
       subst h
       exact .ok hv hCB.out.1 hCB.out.2)
     go_wp2_with fail
     go_end0
     exact hR.out
   | cons y r =>
     obtain ⟨hy, hr'⟩ := hr.out
     simp only [Exs.len] at hk
     simp only [Exs.size] at hrs
     have hlt : k < l.len := by omega
     rcases hp with h0 | rfl
     · omega
     have hEy := hE.out
     rw [Exs.wc_cons (by omega)] at hEy
     have HEy := Lib.hid hEy
     have HR := Lib.hid hr'
     have HY := Lib.hid (And.intro hy (show b < N by have := Hb.out; omega))
     have HCt := Lib.hid (count_any g v wr hCB.out.1 hv)
     have hy2 : y.args.size + 1 = y.size := by obtain ⟨op, wd, nm, ar⟩ := y; rw [Ex.size]; rfl
     have hWr := HW.out.but hCB.out.2
     have s0 := cell_blk hWr.cs (j := 0) rfl
     unfold ctFn at s0
     clear hy hr' hr hEy hE hWr
     go_wp2_with fail
     refine HCt.out.mono ?_
     intro z w2 hc
     rcases hc with ⟨h1, h2, h3⟩ | ⟨h1, h2, h3⟩
     rotate_left
     · have hR := Lib.hid (show Cnt g n (l.wc deep) w (Pn 13) w2 from .no (by have := HEy.out; omega) h2 (hCB.out.2.trans h3))
       unfold Pn at hR ⊢
       clear h1 h2 h3 s0
       go_wp2_with fail
       exact ⟨rfl, hR.out⟩
     have hCB2 := Lib.hid (And.intro h2 (hCB.out.2.trans h3))
     have hold := hCB2.out.2.old hg hN
     obtain ⟨q, cq, d0, d1, d2, d3, hok⟩ := (Ex.At.later hold (Nat.le_refl N) y b (o + k * 4) HY.out.2 HY.out.1).open'
     have hCl := Lib.hid (IH.out y.args (by omega) (deep + 1) (by omega) q cq N w2.drew (v + 1) g sb wb (hok.1.later ((Below.refl N w2).drew) (Nat.le_refl N)) (Nat.le_trans hN hCB2.out.2.size) hg (HW.out.but hCB2.out.2.drew) h2 h1)
     rw [show ((deep + 1 : Nat) : Int) = (deep : Int) + 1 by omega] at hCl
     have hWr := HW.out.but hCB2.out.2
     have s1 := cell_blk hWr.cw (j := 0) rfl
     unfold wnFn at s1
     clear h1 h2 h3 hold hok s0 hWr
     go_wp2_with fail
     have HNo := Lib.hid (fun (w3 : World) (h1 : 65536 < v + 1 + y.args.wc (deep + 1)) (h2 : Ct w3 g 65537) (h3 : But g w2.drew w3) => show Cnt g n (l.wc deep) w (Pn 13) w3 from .no (by have := HEy.out; omega) h2 (hCB2.out.2.drew.trans h3))
     unfold Pn at HNo
     go_region_with (go_at_call 121; refine hCl.out.mono ?_; intro z w3 hc; rcases hc with ⟨h1, h2, h3⟩ | ⟨h1, h2, h3⟩; rotate_left; (exact ⟨rfl, HNo.out w3 h1 h2 h3⟩))
     all_goals
       (go_wp2_with fail
        refine ⟨⟨k + 1, v + 1 + y.args.wc (deep + 1), r, by go_num, by omega, by omega, h1, Lib.hid (by rw [show o + (k + 1) * 4 = o + k * 4 + 4 by omega]; exact HR.out), Lib.hid ⟨h2, hCB2.out.2.drew.trans h3⟩, Lib.hid (by have := HEy.out; omega)⟩, ?_⟩
        simp [intOf]; omega)
theorem within_to : ∀ n, WithinTo n
 | 0 => fun _ h => absurd h (Nat.not_lt_zero _)
 | n + 1 => within_step n (within_to n)
/- How many expressions a statement has. -/
open Go.RowKit

def Ex.oc (x : Ex) (deep : Nat) : Nat := if x.isZ then 0 else x.wc deep
def Exs.oc : Exs → Nat → Nat
 | .nil, _ => 0
 | .cons x r, deep => x.oc deep + r.oc deep
def St.own (x : St) (deep : Nat) : Nat := x.a.oc deep + x.e.oc deep + x.args.oc deep
structure On (w : World) (g sb wb db deep : Nat) : Prop extends Wn w g sb wb where
 cd : w.heap[db]? = some (.cells #[.int .i64 (deep : Int)] 3 (0, 0))
 nd : db ≠ g
theorem On.but {w w' : World} {g sb wb db deep : Nat} (h : On w g sb wb db deep) (hB : But g w w') : On w' g sb wb db deep :=
 ⟨h.toWn.but hB, (hB.block _ (lt_blk h.cd) h.nd).trans h.cd, h.nd⟩
set_option maxHeartbeats 3200000 in
theorem ownE_any (x : Ex) (deep : Nat) (hd : deep ≤ 64) (N b o : Nat) (w : World) (n g sb wb db : Nat) (hx : x.At w N b o) (hb : b < N) (hN : N ≤ w.heap.size) (hg : N ≤ g) (hO : On w g sb wb db deep) (hC : Ct w g n) (hn : n ≤ 65536) :
   Calls Tryz.prog 122 #[.pointer (some ⟨b, o, none⟩), .pointer (some ⟨sb, 0, none⟩), .pointer (some ⟨wb, 0, none⟩), .pointer (some ⟨db, 0, none⟩)] w (Cnt g n (x.oc deep) w) := by
 have HZ := Lib.hid (zeroE_any x N b o w hx)
 unfold Ex.oc
 cases hz : x.isZ with
 | true =>
   rw [hz] at HZ
   have hR := Lib.hid (show Cnt g n 0 w (.returned (.tuple #[])) w from .ok (by omega) hC (But.refl _ _))
   clear hx hO hC hz
   go_enter Tryz.func122, Tryz.ntmps122
   go_wp2_with (go_at_call 123; refine HZ.out.mono ?_; rintro z w' ⟨rfl, rfl⟩)
   go_end0
   exact hR.out
 | false =>
   rw [hz] at HZ
   have HCt := Lib.hid (count_any g n w hC hn)
   have HO := Lib.hid hO
   have HX := Lib.hid hx
   have s0 := cell_blk hO.cs (j := 0) rfl
   unfold ctFn at s0
   have hwc := x.wc_eq deep
   have hwd : IntKind.i64.wrap ((deep : Int) + 1) = (deep : Int) + 1 := by simp [IntKind.wrap, IntKind.bits, IntKind.signed]; omega
   simp only [Bool.false_eq_true, if_false]
   rw [hwc]
   clear hx hO hC hz hwc
   go_enter Tryz.func122, Tryz.ntmps122
   go_wp2_with (go_at_call 123; refine HZ.out.mono ?_; rintro z w' ⟨rfl, rfl⟩)
   refine HCt.out.mono ?_
   intro z w2 hc
   rcases hc with ⟨h1, h2, h3⟩ | ⟨h1, h2, h3⟩
   rotate_left
   · have hR := Lib.hid (show Cnt g n (1 + x.args.wc (deep + 1)) w' (Pn 13) w2 from .no (by omega) h2 h3)
     unfold Pn at hR ⊢
     clear h1 h2 h3 s0
     go_wp2_with fail
     exact ⟨rfl, hR.out⟩
   have hold := h3.old hg hN
   obtain ⟨q, cq, d0, d1, d2, d3, hok⟩ := (Ex.At.later hold (Nat.le_refl N) x b o hb HX.out).open'
   have hO2 := HO.out.but h3
   have hCl := Lib.hid (within_to _ x.args (Nat.lt_succ_self _) (deep + 1) (by omega) q cq N w2.drew (n + 1) g sb wb (hok.1.later ((Below.refl N w2).drew) (Nat.le_refl N)) (Nat.le_trans hN h3.size) hg (hO2.toWn.but (But.refl g w2).drew) h2 h1)
   rw [show ((deep + 1 : Nat) : Int) = (deep : Int) + 1 by omega] at hCl
   have s1 := cell_blk hO2.cw (j := 0) rfl
   have s2 := cell_blk hO2.cd (j := 0) rfl
   unfold wnFn at s1
   have HB3 := Lib.hid h3
   have HAll := Lib.hid (fun (z : Ending) (w3 : World) (h : Cnt g (n + 1) (x.args.wc (deep + 1)) w2.drew z w3) => show Cnt g n (1 + x.args.wc (deep + 1)) w' z w3 from by
     rcases h with ⟨h1, h2, h3⟩ | ⟨h1, h2, h3⟩
     · exact .ok (by omega) (by rw [← Nat.add_assoc]; exact h2) (HB3.out.drew.trans h3)
     · exact .no (by omega) h2 (HB3.out.drew.trans h3))
   clear h1 h2 h3 hold hok s0 hO2
   go_wp2_with fail
   go_region_with (go_at_call 121; refine hCl.out.mono ?_; intro z w3 hc; replace hc := HAll.out z w3 hc; rcases hc with ⟨h1, h2, h3⟩ | ⟨h1, h2, h3⟩; rotate_left; (exact ⟨rfl, (Cnt.no h1 h2 h3 : Cnt g n (1 + x.args.wc (deep + 1)) w' (Pn 13) w3)⟩))
   all_goals
     (go_wp2_with fail
      go_end0
      exact .ok h1 h2 h3)

theorem St.At.a {w : World} {N b o : Nat} {x : St} (h : x.At w N b o) : x.a.At w N b (o + 7) := by
 obtain ⟨kd, nm, ns, e, a, as', lo, hi, bd, el⟩ := x
 obtain ⟨_, _, _, ha, _⟩ := h
 exact ha
theorem St.At.e {w : World} {N b o : Nat} {x : St} (h : x.At w N b o) : x.e.At w N b (o + 3) := by
 obtain ⟨kd, nm, ns, e, a, as', lo, hi, bd, el⟩ := x
 obtain ⟨_, _, he, _⟩ := h
 exact he
theorem Sl.start {N n : Nat} {p : Option Addr} {A : Nat → Nat → Prop} (h : Sl N p n A) : n = 0 ∨ ∃ b o, p = some ⟨b, o, none⟩ ∧ b < N ∧ A b o := h.2
/- How many expressions a statement has: the walk. -/
open Go.RowKit

theorem three (w : World) (o0 o1 o2 : Obj) : ∃ W, ((w.alloc o0).alloc o1).alloc o2 = W ∧ W.heap[w.heap.size]? = some o0 ∧ W.heap[w.heap.size + 1]? = some o1 ∧ W.heap[w.heap.size + 1 + 1]? = some o2 ∧ Below w.heap.size w W ∧ W.heap.size = w.heap.size + 3 := by
 refine ⟨_, rfl, ?_, ?_, ?_, (((Below.refl _ w).alloc (Nat.le_refl _) _).alloc (by simp) _).alloc (by simp; omega) _, by simp⟩
 · rw [Below.heap_alloc _ _ _ (by simp; omega), Below.heap_alloc _ _ _ (by simp)]; exact heap_alloc_new w o0
 · rw [Below.heap_alloc _ _ _ (by simp)]; have := heap_alloc_new (w.alloc o0) o1; simpa using this
 · have := heap_alloc_new ((w.alloc o0).alloc o1) o2; simpa using this
set_option maxHeartbeats 6400000 in
theorem eachExpr_any (x : St) (deep : Nat) (hd : deep ≤ 64) (N b o : Nat) (w : World) (n g : Nat) (hx : x.At w N b o) (hb : b < N) (hN : N ≤ w.heap.size) (hg : N ≤ g) (hC : Ct w g n) (hn : n ≤ 65536) :
   Calls Tryz.prog 97 #[.pointer (some ⟨b, o, none⟩), .int .i64 (deep : Int), ctFn g] w (Cnt g n (x.own deep) w) := by
 obtain ⟨W0, hW0, k0, k1, k2, hB0, hz0⟩ := three w (.cells #[.int .i64 (deep : Int)] 3) (.cells #[ctFn g] 1) (.cells #[wnFn (w.heap.size + 1) (w.heap.size + 1 + 1)] 162)
 have hgw : g < w.heap.size := lt_blk hC
 have hO : On W0 g (w.heap.size + 1) (w.heap.size + 1 + 1) w.heap.size deep := ⟨⟨k1, k2, by omega, by omega⟩, k0, by omega⟩
 have HO := Lib.hid hO
 have HX := Lib.hid hx
 have HW0 := Lib.hid hW0
 have HB0 := Lib.hid (But.of_below (g := g) hB0)
 have HN0 := Lib.hid (show N ≤ W0.heap.size by omega)
 have hO0 := ownE_any x.a deep hd N b (o + 7) W0 n g _ _ _ (St.At.a (St.At.later (hB0.mono hN) (Nat.le_refl N) x b o hb hx)) hb (by omega) hg hO (hC.later hB0) hn
 have HA := Lib.hid hO0
 have HS := Lib.hid (fun (W : World) (hB : But g w W) => St.At.later (hB.old hg hN) (Nat.le_refl N) x b o hb hx)
 have HE := Lib.hid (fun (W : World) (v : Nat) (hB : But g W0 W) (hC : Ct W g v) (hv : v ≤ 65536) (h : x.e.At W N b (o + 3)) => ownE_any x.e deep hd N b (o + 3) W v g _ _ _ h hb (Nat.le_trans HN0.out hB.size) hg (HO.out.but hB) hC hv)
 unfold ctFn wnFn at HW0
 unfold ctFn
 clear hW0 k0 k1 k2 hB0 hz0 hO hO0 hx hC
 go_enter Tryz.func97, Tryz.ntmps97
 go_wp2_with fail
 rw [HW0.out]
 refine HA.out.mono ?_
 intro z w1 hc
 rcases hc with ⟨h1, h2, h3⟩ | ⟨h1, h2, h3⟩
 rotate_left
 · have hR := Lib.hid (show Cnt g n (x.own deep) w (Pn 13) w1 from .no (by unfold St.own; omega) h2 (HB0.out.trans h3))
   unfold Pn at hR ⊢
   clear h1 h2 h3
   go_wp2_with fail
   exact ⟨rfl, hR.out⟩
 have HE1 := Lib.hid (HE.out w1 _ h3 h2 h1 (St.At.e (HS.out w1 (HB0.out.trans h3))))
 have HB1 := Lib.hid h3
 clear h1 h2 h3
 go_wp2_with fail
 refine HE1.out.mono ?_
 intro z w2 hc
 rcases hc with ⟨h1, h2, h3⟩ | ⟨h1, h2, h3⟩
 rotate_left
 · have hR := Lib.hid (show Cnt g n (x.own deep) w (Pn 13) w2 from .no (by unfold St.own; omega) h2 (HB0.out.trans (HB1.out.trans h3)))
   unfold Pn at hR ⊢
   clear h1 h2 h3
   go_wp2_with fail
   exact ⟨rfl, hR.out⟩
 have HB2 := Lib.hid (HB1.out.trans h3)
 have HC2 := Lib.hid h2
 obtain ⟨v0, hv0⟩ : ∃ v0, n + x.a.oc deep + x.e.oc deep = v0 := ⟨_, rfl⟩
 rw [hv0] at h1 HC2
 have HT := Lib.hid (show v0 + x.args.oc deep = n + x.own deep by unfold St.own; omega)
 clear hv0 h2 h3
 obtain ⟨⟨pn, pe, pa, pg, pb, pl, cn, ce, ca, cg, cb, cl⟩, hcs, hok⟩ := (HS.out w2 (HB0.out.trans HB2.out)).open
 have c11 : w2.cell? ⟨b, o + 11, none⟩ = some (.slice pg x.args.len cg) := hcs 11 _ rfl
 have hIn := hok.2.2.2.1
 obtain ⟨hm, hs⟩ := hIn
 obtain ⟨b', o', hp, hb', ha⟩ : ∃ b' o', (x.args.len = 0 ∨ pg = some ⟨b', o', none⟩) ∧ (b' < N ∨ x.args.len = 0) ∧ x.args.At w2 N b' o' := by
   rcases hs with h0 | ⟨b', o', hp, hb', ha⟩
   · exact ⟨0, 0, .inl h0, .inr h0, by cases hxa : x.args with | nil => trivial | cons => rw [hxa] at h0; simp [Exs.len] at h0⟩
   · exact ⟨b', o', .inr hp, .inl hb', ha⟩
 have Hb' := Lib.hid hb'
 have HN2 := Lib.hid (Nat.le_trans HN0.out HB2.out.size)
 have HC11 := Lib.hid (fun (W : World) (hB : But g w2 W) => ((hB.old hg HN2.out).cell (p := ⟨b, o + 11, none⟩) hb).trans c11)
 have HEl := Lib.hid (fun (W : World) (v : Nat) (y : Ex) (oo : Nat) (hB : But g w2 W) (hC : Ct W g v) (hv : v ≤ 65536) (hbb : b' < N) (h : y.At w2 N b' oo) => ownE_any y deep hd N b' oo W v g _ _ _ (Ex.At.later (hB.old hg HN2.out) (Nat.le_refl N) y b' oo hbb h) hbb (Nat.le_trans HN2.out hB.size) hg (HO.out.but (HB2.out.trans hB)) hC hv)
 clear hcs hok hs hb' HE HA HE1 HB1 HS
 go_wp2_with fail
 go_loopw [26] (fun i wr => ∃ (k v : Nat) (r : Exs), i = .int .i64 k ∧ k + r.len = x.args.len ∧ v ≤ 65536 ∧ Hid (r.At w2 N b' (o' + k * 4)) ∧ Hid (Ct wr g v ∧ But g w2 wr) ∧ Hid (v + r.oc deep = n + x.own deep)) (fun i _ => x.args.len - (intOf i).toNat)
 case atStart => exact ⟨0, v0, x.args, rfl, by omega, h1, Lib.hid (by rw [Nat.zero_mul]; exact ha), Lib.hid ⟨HC2.out, But.refl _ _⟩, HT⟩
 case round =>
   obtain ⟨k, v, r, rfl, hk, hv, hr, hCB, hE⟩ := hrel
   have c11r := HC11.out wr hCB.out.2
   clear c11
   cases r with
   | nil =>
     simp only [Exs.len] at hk
     have hge : ¬ k < x.args.len := by omega
     have hR := Lib.hid (show Cnt g n (x.own deep) w (.returned (.tuple #[])) wr by
       have h := hE.out
       rw [Exs.oc, Nat.add_zero] at h
       subst h
       exact .ok hv hCB.out.1 (HB0.out.trans (HB2.out.trans hCB.out.2)))
     go_wp2_with fail
     go_end0
     exact hR.out
   | cons y r =>
     obtain ⟨hy, hr'⟩ := hr.out
     simp only [Exs.len] at hk
     have hlt : k < x.args.len := by omega
     rcases hp with h0 | rfl
     · omega
     have hEy := hE.out
     rw [Exs.oc] at hEy
     have HEy := Lib.hid hEy
     have HR := Lib.hid hr'
     have HCl := Lib.hid (HEl.out wr v y _ hCB.out.2 hCB.out.1 hv (by have := Hb'.out; omega) hy)
     clear hy hr' hr hEy hE
     go_wp2_with fail
     refine HCl.out.mono ?_
     intro z w3 hc
     rcases hc with ⟨h1, h2, h3⟩ | ⟨h1, h2, h3⟩
     rotate_left
     · have hR := Lib.hid (show Cnt g n (x.own deep) w (Pn 13) w3 from .no (by have := HEy.out; omega) h2 (HB0.out.trans (HB2.out.trans (hCB.out.2.trans h3))))
       unfold Pn at hR ⊢
       clear h1 h2 h3
       go_wp2_with fail
       exact ⟨rfl, hR.out⟩
     have HX3 := Lib.hid (And.intro h2 (hCB.out.2.trans h3))
     clear h2 h3
     go_wp2_with fail
     go_roundw
     case rel => exact ⟨k + 1, v + y.oc deep, r, by go_num, by omega, h1, Lib.hid (by rw [show o' + (k + 1) * 4 = o' + k * 4 + 4 by omega]; exact HR.out), HX3, Lib.hid (by have := HEy.out; omega)⟩
     case measure => simp [intOf]; omega
/- How many statements and expressions there are. -/
open Go.RowKit

mutual
def St.sc : St → Nat → Nat
 | .mk kd nm ns e a as' lo hi bd el, deep => 1 + (St.mk kd nm ns e a as' lo hi bd el).own deep + bd.sc (deep + 1) + el.sc (deep + 1)
def Sts.sc : Sts → Nat → Nat
 | .nil, _ => 0
 | .cons x r, deep => if 64 < deep then 0 else x.sc deep + r.sc deep
end
theorem St.sc_eq (x : St) (deep : Nat) : x.sc deep = 1 + x.own deep + x.body.sc (deep + 1) + x.els.sc (deep + 1) := by obtain ⟨kd, nm, ns, e, a, as', lo, hi, bd, el⟩ := x; rw [St.sc]; rfl
theorem Sts.sc_deep : ∀ (l : Sts) (deep : Nat), 64 < deep → l.sc deep = 0
 | .nil, _, _ => by rw [Sts.sc]
 | .cons x r, deep, h => by rw [Sts.sc, if_pos h]
theorem Sts.sc_cons {x : St} {r : Sts} {deep : Nat} (h : deep ≤ 64) : (Sts.cons x r).sc deep = 1 + x.own deep + x.body.sc (deep + 1) + x.els.sc (deep + 1) + r.sc deep := by rw [Sts.sc, if_neg (by omega), St.sc_eq]
structure Cb (w : World) (g cb : Nat) : Prop where
 cs : w.heap[cb]? = some (.cells #[ctFn g] 1 (0, 0))
 ns : cb ≠ g
theorem Cb.but {w w' : World} {g cb : Nat} (h : Cb w g cb) (hB : But g w w') : Cb w' g cb := ⟨(hB.block _ (lt_blk h.cs) h.ns).trans h.cs, h.ns⟩
theorem Cnt.step {g n t u v : Nat} {w w1 w2 : World} {z : Ending} (h : Cnt g (n + t) u w1 z w2) (hB : But g w w1) (hv : t + u = v) : Cnt g n v w z w2 := by
 subst hv
 rcases h with ⟨h1, h2, h3⟩ | ⟨h1, h2, h3⟩
 · exact .ok (by omega) (by rw [← Nat.add_assoc]; exact h2) (hB.trans h3)
 · exact .no (by omega) h2 (hB.trans h3)
set_option maxHeartbeats 1600000 in
theorem seeS_any (x : St) (deep : Nat) (hd : deep ≤ 64) (N b o : Nat) (w : World) (n g cb : Nat) (hx : x.At w N b o) (hb : b < N) (hN : N ≤ w.heap.size) (hg : N ≤ g) (hO : Cb w g cb) (hC : Ct w g n) (hn : n ≤ 65536) :
   Calls Tryz.prog 96 #[.pointer (some ⟨b, o, none⟩), .int .i64 (deep : Int), .pointer (some ⟨cb, 0, none⟩)] w (Cnt g n (1 + x.own deep) w) := by
 have HCt := Lib.hid (count_any g n w hC hn)
 have HO := Lib.hid hO
 have HX := Lib.hid hx
 have s0 := cell_blk hO.cs (j := 0) rfl
 unfold ctFn at s0
 clear hx hO hC
 go_enter Tryz.func96, Tryz.ntmps96
 go_wp2_with fail
 refine HCt.out.mono ?_
 intro z w2 hc
 rcases hc with ⟨h1, h2, h3⟩ | ⟨h1, h2, h3⟩
 rotate_left
 · have hR := Lib.hid (show Cnt g n (1 + x.own deep) w (Pn 13) w2 from .no (by omega) h2 h3)
   unfold Pn at hR ⊢
   clear h1 h2 h3 s0
   go_wp2_with fail
   exact ⟨rfl, hR.out⟩
 have hold := h3.old hg hN
 have s1 := cell_blk (HO.out.but h3).cs (j := 0) rfl
 have HE := Lib.hid (eachExpr_any x deep hd N b o w2 (n + 1) g (St.At.later hold (Nat.le_refl N) x b o hb HX.out) hb (Nat.le_trans hN h3.size) hg h2 h1)
 unfold ctFn at s1 HE
 have HB := Lib.hid h3
 clear h1 h2 h3 hold s0
 go_wp2_with fail
 refine HE.out.mono ?_
 intro z w3 hc
 replace hc := hc.step HB.out rfl
 rcases hc with ⟨h1, h2, h3⟩ | ⟨h1, h2, h3⟩
 · have hR := Lib.hid (show Cnt g n (1 + x.own deep) w (.returned (.tuple #[])) w3 from .ok h1 h2 h3)
   clear h1 h2 h3 s1
   go_wp2_with fail
   go_end0
   exact hR.out
 · have hR := Lib.hid (show Cnt g n (1 + x.own deep) w (Pn 13) w3 from .no h1 h2 h3)
   unfold Pn at hR ⊢
   clear h1 h2 h3 s1
   go_wp2_with fail
   exact ⟨rfl, hR.out⟩

theorem St.At.body {w : World} {N b o : Nat} {x : St} (h : x.At w N b o) : ∃ p c, w.cell? ⟨b, o + 14, none⟩ = some (.slice p x.body.len c) ∧ x.body.In w N p := by
 obtain ⟨kd, nm, ns, e, a, as', lo, hi, bd, el⟩ := x
 obtain ⟨_, _, _, _, _, ⟨p, c, h1, h2⟩, _⟩ := h
 exact ⟨p, c, h1, h2⟩
theorem St.At.els {w : World} {N b o : Nat} {x : St} (h : x.At w N b o) : ∃ p c, w.cell? ⟨b, o + 15, none⟩ = some (.slice p x.els.len c) ∧ x.els.In w N p := by
 obtain ⟨kd, nm, ns, e, a, as', lo, hi, bd, el⟩ := x
 obtain ⟨_, _, _, _, _, _, ⟨p, c, h1, h2⟩⟩ := h
 exact ⟨p, c, h1, h2⟩
theorem St.size_eq (x : St) : x.size = x.body.size + x.els.size + 1 := by obtain ⟨kd, nm, ns, e, a, as', lo, hi, bd, el⟩ := x; rw [St.size]; rfl
def seeFn (cb : Nat) : Value := .func (.func 96) #[] #[.pointer (some ⟨cb, 0, none⟩)]
def EachTo (s : Nat) : Prop := ∀ (l : Sts), l.size < s → ∀ (deep : Nat), deep ≤ 65 → ∀ (p : Option Addr) (c N : Nat) (w : World) (n g cb : Nat), l.In w N p → N ≤ w.heap.size → N ≤ g → Cb w g cb → Ct w g n → n ≤ 65536 →
   Calls Tryz.prog 84 #[.slice p l.len c, .int .i64 (deep : Int), seeFn cb] w (Cnt g n (l.sc deep) w)
set_option maxHeartbeats 6400000 in
theorem each_step (s : Nat) (ih : EachTo s) : EachTo (s + 1) := by
 intro l hls deep hd p c N w n g cb hl hN hg hW hC hn
 unfold seeFn
 by_cases hdp : 64 < deep
 · rw [Sts.sc_deep l deep hdp]
   have hR := Lib.hid (show Cnt g n 0 w (.returned (.tuple #[])) w from .ok (by omega) hC (But.refl _ _))
   have hi : (64 : Int) < (deep : Int) := by omega
   clear hW hC hl ih
   go_enter Tryz.func84, Tryz.ntmps84
   go_wp2_with fail
   go_end0
   exact hR.out
 have IH := Lib.hid ih
 clear ih
 have hi : ¬ (64 : Int) < (deep : Int) := by omega
 have hwd : IntKind.i64.wrap ((deep : Int) + 1) = ((deep + 1 : Nat) : Int) := by simp [IntKind.wrap, IntKind.bits, IntKind.signed]; omega
 obtain ⟨hm, hs⟩ := hl
 obtain ⟨b, o, hp, hb, ha⟩ : ∃ b o, (l.len = 0 ∨ p = some ⟨b, o, none⟩) ∧ (b < N ∨ l.len = 0) ∧ l.At w N b o := by
   rcases hs with h0 | ⟨b, o, hp, hb, ha⟩
   · exact ⟨0, 0, .inl h0, .inr h0, by cases l with | nil => trivial | cons => simp [Sts.len] at h0⟩
   · exact ⟨b, o, .inr hp, .inl hb, ha⟩
 have HW := Lib.hid hW
 have HC := Lib.hid hC
 have Hb := Lib.hid hb
 clear hs hW hC hb
 go_enter Tryz.func84, Tryz.ntmps84
 go_wp2_with fail
 go_loopw [11] (fun i wr => ∃ (k v : Nat) (r : Sts), i = .int .i64 k ∧ k + r.len = l.len ∧ r.size ≤ s ∧ v ≤ 65536 ∧ Hid (r.At w N b (o + k * 16)) ∧ Hid (Ct wr g v ∧ But g w wr) ∧ Hid (v + r.sc deep = n + l.sc deep)) (fun i _ => l.len - (intOf i).toNat)
 case atStart => exact ⟨0, n, l, rfl, by omega, by omega, hn, Lib.hid (by rw [Nat.zero_mul]; exact ha), Lib.hid ⟨HC.out, But.refl _ _⟩, Lib.hid rfl⟩
 case round =>
   obtain ⟨k, v, r, rfl, hk, hrs, hv, hr, hCB, hE⟩ := hrel
   cases r with
   | nil =>
     simp only [Sts.len] at hk
     have hge : ¬ k < l.len := by omega
     have hR := Lib.hid (show Cnt g n (l.sc deep) w (.returned (.tuple #[])) wr by
       have h := hE.out
       rw [Sts.sc, Nat.add_zero] at h
       subst h
       exact .ok hv hCB.out.1 hCB.out.2)
     go_wp2_with fail
     go_end0
     exact hR.out
   | cons y r =>
     obtain ⟨hy, hr'⟩ := hr.out
     simp only [Sts.len] at hk
     simp only [Sts.size] at hrs
     have hlt : k < l.len := by omega
     rcases hp with h0 | rfl
     · omega
     have hEy := hE.out
     rw [Sts.sc_cons (by omega)] at hEy
     have HEy := Lib.hid hEy
     have HR := Lib.hid hr'
     have HY := Lib.hid (And.intro hy (show b < N by have := Hb.out; omega))
     have HSz := Lib.hid y.size_eq
     have HCt := Lib.hid (seeS_any y deep (by omega) N b (o + k * 16) wr v g cb (St.At.later (hCB.out.2.old hg hN) (Nat.le_refl N) y b _ HY.out.2 hy) HY.out.2 (Nat.le_trans hN hCB.out.2.size) hg (HW.out.but hCB.out.2) hCB.out.1 hv)
     clear hy hr' hr hEy hE
     go_wp2_with fail
     refine HCt.out.mono ?_
     intro z w2 hc
     rcases hc with ⟨h1, h2, h3⟩ | ⟨h1, h2, h3⟩
     rotate_left
     · have hR := Lib.hid (show Cnt g n (l.sc deep) w (Pn 13) w2 from .no (by have := HEy.out; omega) h2 (hCB.out.2.trans h3))
       unfold Pn at hR ⊢
       clear h1 h2 h3
       go_wp2_with fail
       exact ⟨rfl, hR.out⟩
     have hCB2 := Lib.hid (And.intro h2 (hCB.out.2.trans h3))
     obtain ⟨q, cq, d0, hok⟩ := St.At.body (St.At.later (hCB2.out.2.old hg hN) (Nat.le_refl N) y b (o + k * 16) HY.out.2 HY.out.1)
     have hCl := Lib.hid (IH.out y.body (by have := HSz.out; omega) (deep + 1) (by omega) q cq N w2 _ g cb hok (Nat.le_trans hN hCB2.out.2.size) hg (HW.out.but hCB2.out.2) h2 h1)
     unfold seeFn at hCl
     clear h1 h2 h3 hok
     go_wp2_with fail
     refine hCl.out.mono ?_
     intro z w3 hc
     rcases hc with ⟨h1, h2, h3⟩ | ⟨h1, h2, h3⟩
     rotate_left
     · have hR := Lib.hid (show Cnt g n (l.sc deep) w (Pn 13) w3 from .no (by have := HEy.out; omega) h2 (hCB2.out.2.trans h3))
       unfold Pn at hR ⊢
       clear h1 h2 h3
       go_wp2_with fail
       exact ⟨rfl, hR.out⟩
     have hCB3 := Lib.hid (And.intro h2 (hCB2.out.2.trans h3))
     obtain ⟨q4, cq4, d4, hok4⟩ := St.At.els (St.At.later (hCB3.out.2.old hg hN) (Nat.le_refl N) y b (o + k * 16) HY.out.2 HY.out.1)
     have hCl4 := Lib.hid (IH.out y.els (by have := HSz.out; omega) (deep + 1) (by omega) q4 cq4 N w3 _ g cb hok4 (Nat.le_trans hN hCB3.out.2.size) hg (HW.out.but hCB3.out.2) h2 h1)
     unfold seeFn at hCl4
     clear h1 h2 h3 hok4 d0
     go_wp2_with fail
     refine hCl4.out.mono ?_
     intro z w4 hc
     rcases hc with ⟨h1, h2, h3⟩ | ⟨h1, h2, h3⟩
     rotate_left
     · have hR := Lib.hid (show Cnt g n (l.sc deep) w (Pn 13) w4 from .no (by have := HEy.out; omega) h2 (hCB3.out.2.trans h3))
       unfold Pn at hR ⊢
       clear h1 h2 h3
       go_wp2_with fail
       exact ⟨rfl, hR.out⟩
     have hCB4 := Lib.hid (And.intro h2 (hCB3.out.2.trans h3))
     clear h2 h3 d4
     go_wp2_with fail
     go_roundw
     case rel => exact ⟨k + 1, _, r, by go_num, by omega, by omega, h1, Lib.hid (by rw [show o + (k + 1) * 16 = o + k * 16 + 16 by omega]; exact HR.out), hCB4, Lib.hid (by have := HEy.out; omega)⟩
     case measure => simp [intOf]; omega
theorem each_to : ∀ n, EachTo n
 | 0 => fun _ h => absurd h (Nat.not_lt_zero _)
 | n + 1 => each_step n (each_to n)
end Go.Proofs.YtihmibggonffdaaGreat
