/- Programs and inputs that come in, with how much they have: at the reading's bulk. -/
import Derived.Test.YtihmibggonffdaaGreatRows
import Derived.Test.YtihmibggonffdaaGreatDF
import Derived.ProofKit
import Derived.OpenShut
import Derived.Handed
namespace Go.Proofs.YtihmibggonffdaaGreat
open Go.ChangeShapes Go.WideShapes Go.ChangeAt Go.RowKit

section
variable {H : Type}
theorem bulkAll_sum : ∀ ds : List (DataW H), Rows.uptoBulkAll ds = (ds.map Rows.uptoBulk).sum
 | [] => by simp [Rows.uptoBulkAll]
 | d :: ds => by simp [Rows.uptoBulkAll, bulkAll_sum ds]
theorem bulk_pos (d : DataW H) : 1 ≤ Rows.uptoBulk d := by cases d <;> (try rename_i l; cases l) <;> simp [Rows.uptoBulk] <;> omega
theorem sum_ge : ∀ ks : List Nat, (∀ k ∈ ks, 1 ≤ k) → ks.length ≤ ks.sum
 | [], _ => Nat.le_refl _
 | k :: ks, h => by
   have := sum_ge ks fun k' hk => h k' (List.mem_cons_of_mem _ hk)
   have := h k (List.mem_cons_self ..)
   simp only [List.length_cons, List.sum_cons]; omega
end
theorem add_none (b o i : Nat) : (⟨b, o, none⟩ : Addr).add i = ⟨b, o + i, none⟩ := by unfold Addr.add; split <;> simp_all
section
theorem le_sum_mem : ∀ {ks : List Nat} {m : Nat}, m ∈ ks → m ≤ ks.sum
 | [], _, h => by cases h
 | k :: ks, m, h => by
     rcases List.mem_cons.1 h with rfl | h
     · rw [List.sum_cons]; omega
     · have := le_sum_mem h; rw [List.sum_cons]; omega

variable {H : Type} {enc : TypeId × Value → H} {w : World}
theorem slice_opb {t e : TypeId} {fuel k : Nat} {cs : List Value} {x : DataW H × List MemPlace} (hk : Tryz.prog.cellsOf e = k) (hk0 : 0 < k) (ht : Tryz.prog.underlying t = some (.slice e)) (h : DataW.trod enc Tryz.prog w 0 (fun _ => true) true fuel t cs = some x) (hb : Rows.uptoBulk x.1 ≤ 1048576) :
   ∃ (n : Nat) (p : Option Addr) (ks : List Nat) (c : Nat), fuel = n + 1 ∧ cs = [.slice p ks.length c] ∧ ks.sum + 1 ≤ Rows.uptoBulk x.1 ∧ ks.length ≤ ks.sum ∧ ks.length ≤ 140737488355328 ∧ ks.length ≤ c ∧
     (ks.length = 0 ∨ ∃ b off, p = some ⟨b, off, none⟩ ∧ b < w.heap.size ∧ ∀ i m, ks[i]? = some m → ∃ cs' y, cs'.length = k ∧ (∀ j, j < k → w.cell? ⟨b, off + i * k + j, none⟩ = cs'[j]?) ∧ DataW.trod enc Tryz.prog w 0 (fun _ => true) true n e cs' = some y ∧ Rows.uptoBulk y.1 = m ∧ Rows.uptoBulk y.1 ≤ 1048576) := by
 obtain ⟨n, rfl⟩ : ∃ n, fuel = n + 1 := by cases fuel with | zero => simp [DataW.trod] at h | succ n => exact ⟨n, rfl⟩
 rcases DataW.trod_slice ht h with ⟨rfl, rfl⟩ | ⟨a, len, cap, elems, rest, n', hn, rfl, rfl, hcp, _, _, hlen, hel, _, _⟩
 · exact ⟨n, none, [], 0, rfl, rfl, by simp [Rows.uptoBulk], by simp, by simp, by simp, .inl rfl⟩
 · obtain rfl : n = n' := by omega
   rw [hk] at hel
   have hb' : Rows.uptoBulk (DataW.slice (elems.map (·.1)) (rest.map (·.1))) ≤ 1048576 := hb
   have hs : (elems.map fun y => Rows.uptoBulk y.1).sum + 1 ≤ Rows.uptoBulk (DataW.slice (elems.map (·.1)) (rest.map (·.1))) := by
     have : (elems.map fun y => Rows.uptoBulk y.1) = (elems.map (·.1)).map Rows.uptoBulk := by simp
     rw [this, ← bulkAll_sum]
     simp only [Rows.uptoBulk]; omega
   have hge : (elems.map fun y => Rows.uptoBulk y.1).length ≤ (elems.map fun y => Rows.uptoBulk y.1).sum := sum_ge _ fun k hk' => by
     obtain ⟨y, _, rfl⟩ := List.mem_map.1 hk'; exact bulk_pos _
   refine ⟨n, some a, elems.map fun y => Rows.uptoBulk y.1, cap, rfl, by simp [hlen], hs, hge, Nat.le_trans hge (by omega), by rw [List.length_map]; omega, ?_⟩
   by_cases h0 : len = 0
   · left; simp [hlen, h0]
   · right
     have key : ∀ i, i < len → ∃ cs' y, elems[i]? = some y ∧ cs'.length = k ∧ (∀ j, j < k → w.cell? ((a.add (i * k)).add j) = cs'[j]?) ∧ DataW.trod enc Tryz.prog w 0 (fun _ => true) true n e cs' = some y := by
       intro i hi
       have := hel i hi
       rw [List.getElem?_eq_getElem (by omega)] at this
       obtain ⟨cs', h1, h2⟩ := Option.bind_eq_some_iff.1 this
       obtain ⟨_, hl, hc⟩ := World.cells?_some h1
       exact ⟨cs', _, List.getElem?_eq_getElem (by omega), hl, hc, h2⟩
     obtain ⟨cs0, y0, _, hl0, hc0, _⟩ := key 0 (by omega)
     have hcell := hc0 0 hk0
     rw [List.getElem?_eq_getElem (by omega)] at hcell
     obtain ⟨b, off, spot⟩ := a
     have hspot : spot = none := by simpa [Addr.add] using World.cell?_spot hcell
     subst hspot
     refine ⟨b, off, rfl, by simpa [Addr.add] using World.block_lt_of_cell? _ _ hcell, fun i m hm => ?_⟩
     have hmem : m ∈ elems.map fun y => Rows.uptoBulk y.1 := List.mem_of_getElem? hm
     have hmle : m ≤ (elems.map fun y => Rows.uptoBulk y.1).sum := le_sum_mem hmem
     rw [List.getElem?_map] at hm
     have hi : i < len := by
       rcases Nat.lt_or_ge i len with h | h
       · exact h
       · rw [List.getElem?_eq_none (by omega)] at hm; cases hm
     obtain ⟨cs', y, hy, hl, hc, hr⟩ := key i hi
     rw [hy] at hm
     have hm' : Rows.uptoBulk y.1 = m := by simpa using hm
     exact ⟨cs', y, hl, fun j hj => by have h1 := hc j hj; rw [add_none, add_none] at h1; exact h1, hr, hm', by omega⟩
theorem struct_opb {t : TypeId} {fs : Array Field} {fuel : Nat} {cs : List Value} {x : DataW H × List MemPlace} (ht : Tryz.prog.underlying t = some (.struct fs)) (h : DataW.trod enc Tryz.prog w 0 (fun _ => true) true fuel t cs = some x) (hb : Rows.uptoBulk x.1 ≤ 1048576) :
   ∃ (n : Nat) (ks : List Nat), fuel = n + 1 ∧ cs.length = Tryz.prog.cellsOf t ∧ ks.length = fs.size ∧ ks.sum + 1 ≤ Rows.uptoBulk x.1 ∧ ∀ (i : Nat) (f : Field), fs[i]? = some f → ∃ y, DataW.trod enc Tryz.prog w 0 (fun _ => true) true n f.type ((cs.drop f.offset).take (Tryz.prog.cellsOf f.type)) = some y ∧ ks[i]? = some (Rows.uptoBulk y.1) ∧ Rows.uptoBulk y.1 ≤ 1048576 := by
 obtain ⟨xs, n, rfl, rfl, hl, hx, hf⟩ := DataW.trod_struct ht h
 have hb' : Rows.uptoBulk (DataW.agg (xs.map (·.1))) ≤ 1048576 := hb
 have hs : (xs.map fun y => Rows.uptoBulk y.1).sum + 1 ≤ Rows.uptoBulk (DataW.agg (xs.map (·.1))) := by
   have : (xs.map fun y => Rows.uptoBulk y.1) = (xs.map (·.1)).map Rows.uptoBulk := by simp
   rw [this, ← bulkAll_sum]
   simp only [Rows.uptoBulk]; omega
 refine ⟨n, xs.map fun y => Rows.uptoBulk y.1, rfl, hl, by rw [List.length_map]; exact hx, hs, fun i f hi => ?_⟩
 have hlt : i < xs.length := by rw [hx]; exact (Array.getElem?_eq_some_iff.1 hi).1
 have h1 := hf i f hi
 rw [List.getElem?_eq_getElem hlt] at h1
 have hg : (xs.map fun y => Rows.uptoBulk y.1)[i]? = some (Rows.uptoBulk (xs[i]).1) := by rw [List.getElem?_map, List.getElem?_eq_getElem hlt]; rfl
 have := le_sum_mem (List.mem_of_getElem? hg)
 exact ⟨_, h1, hg, by omega⟩

theorem opn_int {t : TypeId} {n : Nat} {cs : List Value} {y : DataW H × List MemPlace} (ht : Tryz.prog.underlying t = some (.int .i64)) (h : DataW.trod enc Tryz.prog w 0 (fun _ => true) true n t cs = some y) : ∃ z : Int, cs = [.int .i64 z] ∧ -9223372036854775808 ≤ z ∧ z ≤ 9223372036854775807 := by
 obtain ⟨z, e, _, hz⟩ := DataW.trod_int ht h
 exact ⟨z, e, by simp [Lit.wf, IntKind.bits, IntKind.signed, IntKind.max, IntKind.min] at hz; omega⟩

theorem opn_u64 {t : TypeId} {n : Nat} {cs : List Value} {y : DataW H × List MemPlace} (ht : Tryz.prog.underlying t = some (.int .u64)) (h : DataW.trod enc Tryz.prog w 0 (fun _ => true) true n t cs = some y) : ∃ z : Nat, cs = [.int .u64 (z : Int)] ∧ z < 18446744073709551616 := by
 obtain ⟨z, e, _, hz⟩ := DataW.trod_int ht h
 have hb : 0 ≤ z ∧ z < 18446744073709551616 := by simp [Lit.wf, IntKind.bits, IntKind.signed, IntKind.max, IntKind.min] at hz; omega
 exact ⟨z.toNat, by rw [e, show ((z.toNat : Nat) : Int) = z by omega], by omega⟩

theorem opn_str {t : TypeId} {n : Nat} {cs : List Value} {y : DataW H × List MemPlace} (ht : Tryz.prog.underlying t = some .string) (h : DataW.trod enc Tryz.prog w 0 (fun _ => true) true n t cs = some y) : ∃ l : List UInt8, cs = [.string (str l)] := by
 obtain ⟨z, e, _, _⟩ := DataW.trod_string ht h
 exact ⟨z.data.toList, by rw [e, str_eta]⟩

theorem opn_bool {t : TypeId} {n : Nat} {cs : List Value} {y : DataW H × List MemPlace} (ht : Tryz.prog.underlying t = some .bool) (h : DataW.trod enc Tryz.prog w 0 (fun _ => true) true n t cs = some y) : ∃ z : Bool, cs = [.bool z] := by
 obtain ⟨z, e, _⟩ := DataW.trod_bool ht h
 exact ⟨z, e⟩

theorem four {α : Type} {cs : List α} (h : cs.length = 4) : ∃ a b c d, cs = [a, b, c, d] := by
 match cs, h with
 | [a, b, c, d], _ => exact ⟨a, b, c, d, rfl⟩

theorem five {α : Type} {cs : List α} (h : cs.length = 5) : ∃ a b c d e, cs = [a, b, c, d, e] := by
 match cs, h with
 | [a, b, c, d, e], _ => exact ⟨a, b, c, d, e, rfl⟩

theorem twoL {α : Type} {cs : List α} (h : cs.length = 2) : ∃ a b, cs = [a, b] := by
 match cs, h with
 | [a, b], _ => exact ⟨a, b, rfl⟩

theorem sixteen {α : Type} {cs : List α} (h : cs.length = 16) : ∃ a b c d e f g h i j k l m n o p, cs = [a, b, c, d, e, f, g, h, i, j, k, l, m, n, o, p] := by
 match cs, h with
 | [a, b, c, d, e, f, g, h, i, j, k, l, m, n, o, p], _ => exact ⟨a, b, c, d, e, f, g, h, i, j, k, l, m, n, o, p, rfl⟩

theorem Row.ofB {α : Type} {A : α → Nat → Nat → Prop} {f : α → Nat} {k b : Nat} : ∀ (ks : List Nat) (o : Nat), (∀ i m, ks[i]? = some m → ∃ x, A x b (o + i * k) ∧ f x ≤ m) → ∃ l : List α, l.length = ks.length ∧ Row A k l b o ∧ (l.map f).sum ≤ ks.sum
 | [], _, _ => ⟨[], rfl, trivial, Nat.le_refl _⟩
 | m :: ks, o, h => by
   obtain ⟨x, hx, hm⟩ := h 0 m rfl
   obtain ⟨l, hl, hr, hs⟩ := Row.ofB (A := A) (f := f) (k := k) (b := b) ks (o + k) fun i m' hi => by
     obtain ⟨y, hy, hm'⟩ := h (i + 1) m' (by simpa using hi)
     exact ⟨y, by rw [show o + k + i * k = o + (i + 1) * k by rw [Nat.add_mul]; omega]; exact hy, hm'⟩
   exact ⟨x :: l, by simp [hl], ⟨by simpa using hx, hr⟩, by simp only [List.map_cons, List.sum_cons]; omega⟩
theorem Exs.ofB {B b : Nat} : ∀ (ks : List Nat) (o : Nat), (∀ i m, ks[i]? = some m → ∃ x : Ex, x.At w B b (o + i * 4) ∧ x.size + 1 ≤ m) → ∃ l : Exs, l.len = ks.length ∧ l.At w B b o ∧ l.size ≤ ks.sum
 | [], _, _ => ⟨.nil, rfl, trivial, Nat.le_refl _⟩
 | m :: ks, o, h => by
   obtain ⟨x, hx, hm⟩ := h 0 m rfl
   obtain ⟨l, hl, hr, hs⟩ := Exs.ofB (B := B) (b := b) ks (o + 4) fun i m' hi => by
     obtain ⟨y, hy, hm'⟩ := h (i + 1) m' (by simpa using hi)
     exact ⟨y, by rw [show o + 4 + i * 4 = o + (i + 1) * 4 by omega]; exact hy, hm'⟩
   exact ⟨.cons x l, by simp [Exs.len, hl], ⟨by simpa using hx, hr⟩, by simp only [Exs.size, List.sum_cons]; omega⟩
theorem Sts.ofB {B b : Nat} : ∀ (ks : List Nat) (o : Nat), (∀ i m, ks[i]? = some m → ∃ x : St, x.At w B b (o + i * 16) ∧ x.big ≤ m) → ∃ l : Sts, l.len = ks.length ∧ l.At w B b o ∧ l.big ≤ ks.sum
 | [], _, _ => ⟨.nil, rfl, trivial, Nat.le_refl _⟩
 | m :: ks, o, h => by
   obtain ⟨x, hx, hm⟩ := h 0 m rfl
   obtain ⟨l, hl, hr, hs⟩ := Sts.ofB (B := B) (b := b) ks (o + 16) fun i m' hi => by
     obtain ⟨y, hy, hm'⟩ := h (i + 1) m' (by simpa using hi)
     exact ⟨y, by rw [show o + 16 + i * 16 = o + (i + 1) * 16 by omega]; exact hy, hm'⟩
   exact ⟨.cons x l, by simp [Sts.len, hl], ⟨by simpa using hx, hr⟩, by simp only [Sts.big, List.sum_cons]; omega⟩

theorem Ex.At.mk' {B b o : Nat} {x : Ex} {p : Option Addr} {c : Nat} (h0 : w.cell? ⟨b, o, none⟩ = some (.int .i64 x.op)) (h1 : w.cell? ⟨b, o + 1, none⟩ = some (.int .u64 (x.word : Int))) (h2 : w.cell? ⟨b, o + 2, none⟩ = some (.string (str x.name))) (h3 : w.cell? ⟨b, o + 3, none⟩ = some (.slice p x.args.len c)) (h : x.Ok w B p) : x.At w B b o := by
 obtain ⟨op, wd, nm, ar⟩ := x
 exact ⟨⟨h0, h1, h2, h.2⟩, ⟨p, c, h3, h.1⟩⟩

theorem cellsEx : Tryz.prog.cellsOf 40 = 4 := by kernel_rfl

theorem cellsSt : Tryz.prog.cellsOf 45 = 16 := by kernel_rfl

theorem cOne (t : TypeId) (h : t = 9 ∨ t = 3 ∨ t = 37 ∨ t = 4 ∨ t = 36 ∨ t = 41 ∨ t = 56 ∨ t = 38 ∨ t = 43 ∨ t = 42 ∨ t = 46 ∨ t = 22 ∨ t = 23) : Tryz.prog.cellsOf t = 1 := by
 rcases h with rfl | rfl | rfl | rfl | rfl | rfl | rfl | rfl | rfl | rfl | rfl | rfl | rfl <;> kernel_rfl


theorem open_ex : ∀ (fuel : Nat) (cs : List Value) (x : DataW H × List MemPlace), DataW.trod enc Tryz.prog w 0 (fun _ => true) true fuel 40 cs = some x → Rows.uptoBulk x.1 ≤ 1048576 →
   ∃ (e : Ex) (p : Option Addr) (c : Nat), cs = [.int .i64 e.op, .int .u64 (e.word : Int), .string (str e.name), .slice p e.args.len c] ∧ e.Ok w w.heap.size p ∧ e.size + 2 ≤ Rows.uptoBulk x.1 := by
 intro fuel
 induction fuel using Nat.strongRecOn with
 | ind fuel ih =>
   intro cs x h hw
   obtain ⟨n, fk, rfl, hl, hfl, hfs, hf⟩ := struct_opb Tryz.underlying40 h hw
   rw [cellsEx] at hl
   obtain ⟨a, b, c, d, rfl⟩ := four hl
   obtain ⟨y0, h0, g0, w0⟩ := hf 0 _ rfl
   obtain ⟨y1, h1, g1, w1⟩ := hf 1 _ rfl
   obtain ⟨y2, h2, g2, w2⟩ := hf 2 _ rfl
   obtain ⟨y3, h3, g3, w3⟩ := hf 3 _ rfl
   have h0' : DataW.trod enc Tryz.prog w 0 (fun _ => true) true n 36 (List.take (Tryz.prog.cellsOf 36) [a, b, c, d]) = some y0 := h0
   have h1' : DataW.trod enc Tryz.prog w 0 (fun _ => true) true n 37 (List.take (Tryz.prog.cellsOf 37) [b, c, d]) = some y1 := h1
   have h2' : DataW.trod enc Tryz.prog w 0 (fun _ => true) true n 9 (List.take (Tryz.prog.cellsOf 9) [c, d]) = some y2 := h2
   have h3' : DataW.trod enc Tryz.prog w 0 (fun _ => true) true n 38 (List.take (Tryz.prog.cellsOf 38) [d]) = some y3 := h3
   rw [cOne _ (by simp)] at h0' h1' h2' h3'
   obtain ⟨z0, e0, _, _⟩ := opn_int Tryz.underlying36 h0'
   obtain ⟨z1, e1, b1⟩ := opn_u64 Tryz.underlying37 h1'
   obtain ⟨z2, e2⟩ := opn_str Tryz.underlying9 h2'
   obtain ⟨m, p, ks, cap, hn, e3, hsm, hge, hlen, _, hel⟩ := slice_opb cellsEx (by decide) Tryz.underlying38 h3' w3
   simp at e0 e1 e2 e3
   subst e0; subst e1; subst e2; subst e3
   have hfk : ks.sum + 4 ≤ fk.sum := by
     have hq : fk.length = 4 := hfl
     obtain ⟨a', b', c', d', rfl⟩ := four hq
     simp at g0 g1 g2 g3
     have := bulk_pos y0.1; have := bulk_pos y1.1; have := bulk_pos y2.1
     simp only [List.sum_cons, List.sum_nil]; omega
   obtain ⟨l, hll, hin, hlz⟩ : ∃ l : Exs, l.len = ks.length ∧ l.In w w.heap.size p ∧ l.size ≤ ks.sum := by
     rcases hel with h0 | ⟨bb, off, rfl, hbl, hel⟩
     · exact ⟨.nil, h0.symm, ⟨by simp [Exs.len], .inl rfl⟩, Nat.zero_le _⟩
     · obtain ⟨l, hl, hr, hz⟩ := Exs.ofB (w := w) (B := w.heap.size) (b := bb) ks off fun i m' hi => by
         obtain ⟨cs', y, hl, hc, hr, hy, hyb⟩ := hel i m' hi
         obtain ⟨e, q, cq, rfl, hok, hez⟩ := ih m (by omega) cs' y hr hyb
         exact ⟨e, Ex.At.mk' (hc 0 (by decide)) (hc 1 (by decide)) (hc 2 (by decide)) (hc 3 (by decide)) hok, by omega⟩
       exact ⟨l, hl, ⟨by rw [hl]; exact hlen, .inr ⟨bb, off, rfl, hbl, hr⟩⟩, hz⟩
   rw [← hll]
   exact ⟨.mk z0 z1 z2 l, p, cap, rfl, ⟨hin, b1⟩, by rw [Ex.size]; omega⟩

theorem open_exs {fuel : Nat} {cs : List Value} {x : DataW H × List MemPlace} (h : DataW.trod enc Tryz.prog w 0 (fun _ => true) true fuel 38 cs = some x) (hw : Rows.uptoBulk x.1 ≤ 1048576) :
   ∃ (l : Exs) (p : Option Addr) (c : Nat), cs = [.slice p l.len c] ∧ l.In w w.heap.size p ∧ l.size + 1 ≤ Rows.uptoBulk x.1 := by
 obtain ⟨m, p, ks, cap, hn, rfl, hsm, hge, hlen, _, hel⟩ := slice_opb cellsEx (by decide) Tryz.underlying38 h hw
 obtain ⟨l, hll, hin, hlz⟩ : ∃ l : Exs, l.len = ks.length ∧ l.In w w.heap.size p ∧ l.size ≤ ks.sum := by
   rcases hel with h0 | ⟨bb, off, rfl, hbl, hel⟩
   · exact ⟨.nil, h0.symm, ⟨by simp [Exs.len], .inl rfl⟩, Nat.zero_le _⟩
   · obtain ⟨l, hl, hr, hz⟩ := Exs.ofB (w := w) (B := w.heap.size) (b := bb) ks off fun i m' hi => by
       obtain ⟨cs', y, hl, hc, hr, hy, hyb⟩ := hel i m' hi
       obtain ⟨e, q, cq, rfl, hok, hez⟩ := open_ex m cs' y hr hyb
       exact ⟨e, Ex.At.mk' (hc 0 (by decide)) (hc 1 (by decide)) (hc 2 (by decide)) (hc 3 (by decide)) hok, by omega⟩
     exact ⟨l, hl, ⟨by rw [hl]; exact hlen, .inr ⟨bb, off, rfl, hbl, hr⟩⟩, hz⟩
 exact ⟨l, p, cap, by rw [hll], hin, by omega⟩
theorem open_strs {fuel : Nat} {cs : List Value} {x : DataW H × List MemPlace} (h : DataW.trod enc Tryz.prog w 0 (fun _ => true) true fuel 42 cs = some x) (hw : Rows.uptoBulk x.1 ≤ 1048576) :
   ∃ (l : List (List UInt8)) (p : Option Addr) (c : Nat), cs = [.slice p l.length c] ∧ (l.length ≤ c ∧ RowIn w.heap.size (StrAt w) 1 l p) ∧ l.length + 1 ≤ Rows.uptoBulk x.1 := by
 obtain ⟨m, p, ks, cap, hn, rfl, hsm, hge, hlen, hcap, hel⟩ := slice_opb (cOne 9 (by simp)) (by decide) Tryz.underlying42 h hw
 rcases hel with h0 | ⟨bb, off, rfl, hbl, hel⟩
 · exact ⟨[], p, cap, by rw [h0]; rfl, ⟨by simp, by simp, .inl rfl⟩, by simp; omega⟩
 · obtain ⟨l, hll, hr, _⟩ := Row.ofB (A := StrAt w) (f := fun _ => 0) (k := 1) (b := bb) ks off fun i m' hi => by
     obtain ⟨cs', y, hl, hc, hr, hy⟩ := hel i m' hi
     obtain ⟨s, rfl⟩ := opn_str Tryz.underlying9 hr
     exact ⟨s, hc 0 (by decide), Nat.zero_le _⟩
   exact ⟨l, _, cap, by rw [hll], ⟨by omega, by omega, .inr ⟨bb, off, rfl, hbl, hr⟩⟩, by omega⟩

theorem St.At.mk' {B b o : Nat} {x : St} {s : StP} (h : ∀ j v, (x.cells s)[j]? = some v → w.cell? ⟨b, o + j, none⟩ = some v) (hok : x.Ok w B s) : x.At w B b o := by
 obtain ⟨kd, nm, ns, e, a, as', lo, hi, bd, el⟩ := x
 obtain ⟨s1, he, ha, s2, s3, s4, h4, h5⟩ := hok
 exact ⟨⟨h 0 _ rfl, h 1 _ rfl, h 12 _ rfl, h 13 _ rfl, h4, h5⟩, ⟨_, _, h 2 _ rfl, s1⟩, Ex.At.mk' (h 3 _ rfl) (h 4 _ rfl) (h 5 _ rfl) (h 6 _ rfl) he, Ex.At.mk' (h 7 _ rfl) (h 8 _ rfl) (h 9 _ rfl) (h 10 _ rfl) ha,
   ⟨_, _, h 11 _ rfl, s2⟩, ⟨_, _, h 14 _ rfl, s3⟩, ⟨_, _, h 15 _ rfl, s4⟩⟩

theorem cells_at {b o k : Nat} {A : Array Value} (hA : A.size = k) (hc : ∀ j, j < k → w.cell? ⟨b, o + j, none⟩ = A.toList[j]?) : ∀ j v, A[j]? = some v → w.cell? ⟨b, o + j, none⟩ = some v := by
 intro j v hv
 have hj : j < A.size := (Array.getElem?_eq_some_iff.1 hv).1
 rw [hc j (by omega), Array.getElem?_toList, hv]

theorem open_st : ∀ (fuel : Nat) (cs : List Value) (x : DataW H × List MemPlace), DataW.trod enc Tryz.prog w 0 (fun _ => true) true fuel 45 cs = some x → Rows.uptoBulk x.1 ≤ 1048576 →
   ∃ (e : St) (s : StP), cs = (e.cells s).toList ∧ e.Ok w w.heap.size s ∧ e.big ≤ Rows.uptoBulk x.1 := by
 intro fuel
 induction fuel using Nat.strongRecOn with
 | ind fuel ih =>
   intro cs x h hw
   have key : ∀ (fl : Nat), fl < fuel → ∀ (cs : List Value) (x : DataW H × List MemPlace), DataW.trod enc Tryz.prog w 0 (fun _ => true) true fl 43 cs = some x → Rows.uptoBulk x.1 ≤ 1048576 →
       ∃ (l : Sts) (p : Option Addr) (c : Nat), cs = [.slice p l.len c] ∧ l.In w w.heap.size p ∧ l.big + 1 ≤ Rows.uptoBulk x.1 := by
     intro fl hfl cs x h hw
     obtain ⟨m, p, ks, cap, hn, rfl, hsm, hge, hlen, _, hel⟩ := slice_opb cellsSt (by decide) Tryz.underlying43 h hw
     obtain ⟨l, hll, hin, hlz⟩ : ∃ l : Sts, l.len = ks.length ∧ l.In w w.heap.size p ∧ l.big ≤ ks.sum := by
       rcases hel with h0 | ⟨bb, off, rfl, hbl, hel⟩
       · exact ⟨.nil, h0.symm, ⟨by simp [Sts.len], .inl rfl⟩, Nat.zero_le _⟩
       · obtain ⟨l, hl, hr, hz⟩ := Sts.ofB (w := w) (B := w.heap.size) (b := bb) ks off fun i m' hi => by
           obtain ⟨cs', y, hl, hc, hr, hy, hyb⟩ := hel i m' hi
           obtain ⟨e, s, rfl, hok, hez⟩ := ih m (by omega) cs' y hr hyb
           exact ⟨e, St.At.mk' (cells_at (A := e.cells s) rfl hc) hok, by omega⟩
         exact ⟨l, hl, ⟨by rw [hl]; exact hlen, .inr ⟨bb, off, rfl, hbl, hr⟩⟩, hz⟩
     exact ⟨l, p, cap, by rw [hll], hin, by omega⟩
   obtain ⟨n, fk, rfl, hl, hfl, hfs, hf⟩ := struct_opb Tryz.underlying45 h hw
   rw [cellsSt] at hl
   obtain ⟨c0, c1, c2, c3, c4, c5, c6, c7, c8, c9, c10, c11, c12, c13, c14, c15, rfl⟩ := sixteen hl
   obtain ⟨y0, h0, g0, w0⟩ := hf 0 _ rfl
   obtain ⟨y1, h1, g1, w1⟩ := hf 1 _ rfl
   obtain ⟨y2, h2, g2, w2⟩ := hf 2 _ rfl
   obtain ⟨y3, h3, g3, w3⟩ := hf 3 _ rfl
   obtain ⟨y4, h4, g4, w4⟩ := hf 4 _ rfl
   obtain ⟨y5, h5, g5, w5⟩ := hf 5 _ rfl
   obtain ⟨y6, h6, g6, w6⟩ := hf 6 _ rfl
   obtain ⟨y7, h7, g7, w7⟩ := hf 7 _ rfl
   obtain ⟨y8, h8, g8, w8⟩ := hf 8 _ rfl
   obtain ⟨y9, h9, g9, w9⟩ := hf 9 _ rfl
   clear hf
   replace h0 : DataW.trod enc Tryz.prog w 0 (fun _ => true) true n 41 (List.take (Tryz.prog.cellsOf 41) [c0, c1, c2, c3, c4, c5, c6, c7, c8, c9, c10, c11, c12, c13, c14, c15]) = some y0 := h0
   replace h1 : DataW.trod enc Tryz.prog w 0 (fun _ => true) true n 9 (List.take (Tryz.prog.cellsOf 9) [c1, c2, c3, c4, c5, c6, c7, c8, c9, c10, c11, c12, c13, c14, c15]) = some y1 := h1
   replace h2 : DataW.trod enc Tryz.prog w 0 (fun _ => true) true n 42 (List.take (Tryz.prog.cellsOf 42) [c2, c3, c4, c5, c6, c7, c8, c9, c10, c11, c12, c13, c14, c15]) = some y2 := h2
   replace h3 : DataW.trod enc Tryz.prog w 0 (fun _ => true) true n 40 (List.take (Tryz.prog.cellsOf 40) [c3, c4, c5, c6, c7, c8, c9, c10, c11, c12, c13, c14, c15]) = some y3 := h3
   replace h4 : DataW.trod enc Tryz.prog w 0 (fun _ => true) true n 40 (List.take (Tryz.prog.cellsOf 40) [c7, c8, c9, c10, c11, c12, c13, c14, c15]) = some y4 := h4
   replace h5 : DataW.trod enc Tryz.prog w 0 (fun _ => true) true n 38 (List.take (Tryz.prog.cellsOf 38) [c11, c12, c13, c14, c15]) = some y5 := h5
   replace h6 : DataW.trod enc Tryz.prog w 0 (fun _ => true) true n 37 (List.take (Tryz.prog.cellsOf 37) [c12, c13, c14, c15]) = some y6 := h6
   replace h7 : DataW.trod enc Tryz.prog w 0 (fun _ => true) true n 37 (List.take (Tryz.prog.cellsOf 37) [c13, c14, c15]) = some y7 := h7
   replace h8 : DataW.trod enc Tryz.prog w 0 (fun _ => true) true n 43 (List.take (Tryz.prog.cellsOf 43) [c14, c15]) = some y8 := h8
   replace h9 : DataW.trod enc Tryz.prog w 0 (fun _ => true) true n 43 (List.take (Tryz.prog.cellsOf 43) [c15]) = some y9 := h9
   rw [cOne _ (by simp)] at h0 h1 h2 h5 h6 h7 h8 h9
   rw [cellsEx] at h3 h4
   obtain ⟨z0, e0, _, _⟩ := opn_int Tryz.underlying41 h0
   obtain ⟨z1, e1⟩ := opn_str Tryz.underlying9 h1
   obtain ⟨ns, pn, cn, e2, hns, zn⟩ := open_strs h2 w2
   obtain ⟨xe, pe, ce, e3, hxe, ze⟩ := open_ex n _ _ h3 w3
   obtain ⟨xa, pa, ca, e4, hxa, za⟩ := open_ex n _ _ h4 w4
   obtain ⟨gs, pg, cg, e5, hgs, zg⟩ := open_exs h5 w5
   obtain ⟨lo, e6, hlo⟩ := opn_u64 Tryz.underlying37 h6
   obtain ⟨hi, e7, hhi⟩ := opn_u64 Tryz.underlying37 h7
   obtain ⟨bd, pb, cb, e8, hbd, zb⟩ := key n (by omega) _ _ h8 w8
   obtain ⟨el, pl, cl, e9, hel, zl⟩ := key n (by omega) _ _ h9 w9
   have hsum : 1 + ns.length + xe.size + xa.size + gs.size + bd.big + el.big ≤ Rows.uptoBulk x.1 := by
     have hq : fk.length = 10 := hfl
     obtain ⟨k0, k1, k2, k3, k4, k5, k6, k7, k8, k9, rfl⟩ : ∃ k0 k1 k2 k3 k4 k5 k6 k7 k8 k9, fk = [k0, k1, k2, k3, k4, k5, k6, k7, k8, k9] := by
       match fk, hq with
       | [a, b, c, d, e, f, g, h, i, j], _ => exact ⟨a, b, c, d, e, f, g, h, i, j, rfl⟩
     simp at g0 g1 g2 g3 g4 g5 g6 g7 g8 g9
     simp only [List.sum_cons, List.sum_nil] at hfs
     omega
   simp at e0 e1 e2 e3 e4 e5 e6 e7 e8 e9
   obtain ⟨rfl, rfl, rfl, rfl⟩ := e3
   obtain ⟨rfl, rfl, rfl, rfl⟩ := e4
   subst e0; subst e1; subst e2; subst e5; subst e6; subst e7; subst e8; subst e9
   exact ⟨.mk z0 z1 ns xe xa gs lo hi bd el, ⟨pn, pe, pa, pg, pb, pl, cn, ce, ca, cg, cb, cl⟩, rfl, ⟨hns, hxe, hxa, hgs, hbd, hel, hlo, hhi⟩, by rw [St.big]; exact hsum⟩

theorem open_sts {fuel : Nat} {cs : List Value} {x : DataW H × List MemPlace} (h : DataW.trod enc Tryz.prog w 0 (fun _ => true) true fuel 43 cs = some x) (hw : Rows.uptoBulk x.1 ≤ 1048576) :
   ∃ (l : Sts) (p : Option Addr) (c : Nat), cs = [.slice p l.len c] ∧ l.In w w.heap.size p ∧ l.big + 1 ≤ Rows.uptoBulk x.1 := by
 obtain ⟨m, p, ks, cap, hn, rfl, hsm, hge, hlen, _, hel⟩ := slice_opb cellsSt (by decide) Tryz.underlying43 h hw
 obtain ⟨l, hll, hin, hlz⟩ : ∃ l : Sts, l.len = ks.length ∧ l.In w w.heap.size p ∧ l.big ≤ ks.sum := by
   rcases hel with h0 | ⟨bb, off, rfl, hbl, hel⟩
   · exact ⟨.nil, h0.symm, ⟨by simp [Sts.len], .inl rfl⟩, Nat.zero_le _⟩
   · obtain ⟨l, hl, hr, hz⟩ := Sts.ofB (w := w) (B := w.heap.size) (b := bb) ks off fun i m' hi => by
       obtain ⟨cs', y, hl, hc, hr, hy, hyb⟩ := hel i m' hi
       obtain ⟨e, s, rfl, hok, hez⟩ := open_st m cs' y hr hyb
       exact ⟨e, St.At.mk' (cells_at (A := e.cells s) rfl hc) hok, by omega⟩
     exact ⟨l, hl, ⟨by rw [hl]; exact hlen, .inr ⟨bb, off, rfl, hbl, hr⟩⟩, hz⟩
 exact ⟨l, p, cap, by rw [hll], hin, by omega⟩

theorem open_vars {fuel : Nat} {cs : List Value} {x : DataW H × List MemPlace} (h : DataW.trod enc Tryz.prog w 0 (fun _ => true) true fuel 46 cs = some x) (hw : Rows.uptoBulk x.1 ≤ 1048576) :
   ∃ (l : List Vr) (p : Option Addr) (c : Nat), cs = [.slice p l.length c] ∧ RowIn w.heap.size (Vr.At w) 4 l p ∧ l.length + 1 ≤ Rows.uptoBulk x.1 ∧ l.length ≤ c := by
 have hk : Tryz.prog.cellsOf 58 = 4 := by kernel_rfl
 obtain ⟨m, p, ks, cap, hn, rfl, hsm, hge, hlen, hcap, hel⟩ := slice_opb hk (by decide) Tryz.underlying46 h hw
 rcases hel with h0 | ⟨bb, off, rfl, hbl, hel⟩
 · exact ⟨[], p, cap, by rw [h0]; rfl, ⟨by simp, .inl rfl⟩, by simp; omega, by simp⟩
 · obtain ⟨l, hll, hr, _⟩ := Row.ofB (A := Vr.At w) (f := fun _ => 0) (k := 4) (b := bb) ks off fun i m' hi => by
     obtain ⟨cs', y, hl, hc, hr, hy, hyb⟩ := hel i m' hi
     obtain ⟨n, fk, rfl, hl, hfl, hfs, hf⟩ := struct_opb Tryz.underlying58 hr hyb
     rw [hk] at hl
     obtain ⟨a, b, c, d, rfl⟩ := four hl
     obtain ⟨y0, h0, g0, w0⟩ := hf 0 _ rfl
     obtain ⟨y1, h1, g1, w1⟩ := hf 1 _ rfl
     obtain ⟨y2, h2, g2, w2⟩ := hf 2 _ rfl
     obtain ⟨y3, h3, g3, w3⟩ := hf 3 _ rfl
     replace h0 : DataW.trod enc Tryz.prog w 0 (fun _ => true) true n 9 (List.take (Tryz.prog.cellsOf 9) [a, b, c, d]) = some y0 := h0
     replace h1 : DataW.trod enc Tryz.prog w 0 (fun _ => true) true n 56 (List.take (Tryz.prog.cellsOf 56) [b, c, d]) = some y1 := h1
     replace h2 : DataW.trod enc Tryz.prog w 0 (fun _ => true) true n 3 (List.take (Tryz.prog.cellsOf 3) [c, d]) = some y2 := h2
     replace h3 : DataW.trod enc Tryz.prog w 0 (fun _ => true) true n 4 (List.take (Tryz.prog.cellsOf 4) [d]) = some y3 := h3
     rw [cOne _ (by simp)] at h0 h1 h2 h3
     obtain ⟨z0, e0⟩ := opn_str Tryz.underlying9 h0
     obtain ⟨z1, e1, _, _⟩ := opn_int Tryz.underlying56 h1
     obtain ⟨z2, e2, _, _⟩ := opn_int Tryz.underlying3 h2
     obtain ⟨z3, e3⟩ := opn_bool Tryz.underlying4 h3
     simp at e0 e1 e2 e3
     subst e0; subst e1; subst e2; subst e3
     exact ⟨⟨z0, z1, z2, z3⟩, ⟨hc 0 (by decide), hc 1 (by decide), hc 2 (by decide), hc 3 (by decide)⟩, Nat.zero_le _⟩
   exact ⟨l, _, cap, by rw [hll], ⟨by omega, .inr ⟨bb, off, rfl, hbl, hr⟩⟩, by omega, by omega⟩

theorem open_regs {fuel : Nat} {cs : List Value} {x : DataW H × List MemPlace} (h : DataW.trod enc Tryz.prog w 0 (fun _ => true) true fuel 22 cs = some x) (hw : Rows.uptoBulk x.1 ≤ 1048576) :
   ∃ (l : List Rgn) (p : Option Addr) (c : Nat), cs = [.slice p l.length c] ∧ RowIn w.heap.size (Rgn.At w) 4 l p ∧ l.length + 1 ≤ Rows.uptoBulk x.1 ∧ l.length ≤ c := by
 have hk : Tryz.prog.cellsOf 83 = 4 := by kernel_rfl
 obtain ⟨m, p, ks, cap, hn, rfl, hsm, hge, hlen, hcap, hel⟩ := slice_opb hk (by decide) Tryz.underlying22 h hw
 rcases hel with h0 | ⟨bb, off, rfl, hbl, hel⟩
 · exact ⟨[], p, cap, by rw [h0]; rfl, ⟨by simp, .inl rfl⟩, by simp; omega, by simp⟩
 · obtain ⟨l, hll, hr, _⟩ := Row.ofB (A := Rgn.At w) (f := fun _ => 0) (k := 4) (b := bb) ks off fun i m' hi => by
     obtain ⟨cs', y, hl, hc, hr, hy, hyb⟩ := hel i m' hi
     obtain ⟨n, fk, rfl, hl, hfl, hfs, hf⟩ := struct_opb Tryz.underlying83 hr hyb
     rw [hk] at hl
     obtain ⟨a, b, c, d, rfl⟩ := four hl
     obtain ⟨y0, h0, g0, w0⟩ := hf 0 _ rfl
     obtain ⟨y1, h1, g1, w1⟩ := hf 1 _ rfl
     obtain ⟨y2, h2, g2, w2⟩ := hf 2 _ rfl
     obtain ⟨y3, h3, g3, w3⟩ := hf 3 _ rfl
     replace h0 : DataW.trod enc Tryz.prog w 0 (fun _ => true) true n 9 (List.take (Tryz.prog.cellsOf 9) [a, b, c, d]) = some y0 := h0
     replace h1 : DataW.trod enc Tryz.prog w 0 (fun _ => true) true n 3 (List.take (Tryz.prog.cellsOf 3) [b, c, d]) = some y1 := h1
     replace h2 : DataW.trod enc Tryz.prog w 0 (fun _ => true) true n 3 (List.take (Tryz.prog.cellsOf 3) [c, d]) = some y2 := h2
     replace h3 : DataW.trod enc Tryz.prog w 0 (fun _ => true) true n 4 (List.take (Tryz.prog.cellsOf 4) [d]) = some y3 := h3
     rw [cOne _ (by simp)] at h0 h1 h2 h3
     obtain ⟨z0, e0⟩ := opn_str Tryz.underlying9 h0
     obtain ⟨z1, e1, _, _⟩ := opn_int Tryz.underlying3 h1
     obtain ⟨z2, e2, _, _⟩ := opn_int Tryz.underlying3 h2
     obtain ⟨z3, e3⟩ := opn_bool Tryz.underlying4 h3
     simp at e0 e1 e2 e3
     subst e0; subst e1; subst e2; subst e3
     exact ⟨⟨z0, z1, z2, z3⟩, ⟨hc 0 (by decide), hc 1 (by decide), hc 2 (by decide), hc 3 (by decide)⟩, Nat.zero_le _⟩
   exact ⟨l, _, cap, by rw [hll], ⟨by omega, .inr ⟨bb, off, rfl, hbl, hr⟩⟩, by omega, by omega⟩

theorem Fnc.At.mk' {B b o : Nat} {x : Fnc} {s : FncP} (h : ∀ j v, (x.cells s)[j]? = some v → w.cell? ⟨b, o + j, none⟩ = some v) (hok : x.Ok w B s) : x.At w B b o :=
 ⟨h 0 _ rfl, ⟨_, _, h 1 _ rfl, hok.1⟩, ⟨_, _, h 2 _ rfl, hok.2.1⟩, ⟨_, _, h 3 _ rfl, hok.2.2.1⟩, ⟨_, _, h 4 _ rfl, hok.2.2.2⟩⟩

theorem open_fns {fuel : Nat} {cs : List Value} {x : DataW H × List MemPlace} (h : DataW.trod enc Tryz.prog w 0 (fun _ => true) true fuel 23 cs = some x) (hw : Rows.uptoBulk x.1 ≤ 1048576) :
   ∃ (l : List Fnc) (p : Option Addr) (c : Nat), cs = [.slice p l.length c] ∧ RowIn w.heap.size (Fnc.At w w.heap.size) 5 l p ∧ fnsBig l + 1 ≤ Rows.uptoBulk x.1 ∧ l.length ≤ c := by
 have hk : Tryz.prog.cellsOf 48 = 5 := by kernel_rfl
 obtain ⟨m, p, ks, cap, hn, rfl, hsm, hge, hlen, hcap, hel⟩ := slice_opb hk (by decide) Tryz.underlying23 h hw
 rcases hel with h0 | ⟨bb, off, rfl, hbl, hel⟩
 · exact ⟨[], p, cap, by rw [h0]; rfl, ⟨by simp, .inl rfl⟩, by rw [fnsBig]; omega, by simp⟩
 · obtain ⟨l, hll, hr, hz⟩ := Row.ofB (A := Fnc.At w w.heap.size) (f := fun g => g.body.big + g.params.length + g.vars.length + g.rets.length + 1) (k := 5) (b := bb) ks off fun i m' hi => by
     obtain ⟨cs', y, hl, hc, hr, hy, hyb⟩ := hel i m' hi
     obtain ⟨n, fk, rfl, hl, hfl, hfs, hf⟩ := struct_opb Tryz.underlying48 hr hyb
     rw [hk] at hl
     obtain ⟨a, b, c, d, e, rfl⟩ := five hl
     obtain ⟨y0, h0, g0, w0⟩ := hf 0 _ rfl
     obtain ⟨y1, h1, g1, w1⟩ := hf 1 _ rfl
     obtain ⟨y2, h2, g2, w2⟩ := hf 2 _ rfl
     obtain ⟨y3, h3, g3, w3⟩ := hf 3 _ rfl
     obtain ⟨y4, h4, g4, w4⟩ := hf 4 _ rfl
     replace h0 : DataW.trod enc Tryz.prog w 0 (fun _ => true) true n 9 (List.take (Tryz.prog.cellsOf 9) [a, b, c, d, e]) = some y0 := h0
     replace h1 : DataW.trod enc Tryz.prog w 0 (fun _ => true) true n 46 (List.take (Tryz.prog.cellsOf 46) [b, c, d, e]) = some y1 := h1
     replace h2 : DataW.trod enc Tryz.prog w 0 (fun _ => true) true n 46 (List.take (Tryz.prog.cellsOf 46) [c, d, e]) = some y2 := h2
     replace h3 : DataW.trod enc Tryz.prog w 0 (fun _ => true) true n 42 (List.take (Tryz.prog.cellsOf 42) [d, e]) = some y3 := h3
     replace h4 : DataW.trod enc Tryz.prog w 0 (fun _ => true) true n 43 (List.take (Tryz.prog.cellsOf 43) [e]) = some y4 := h4
     rw [cOne _ (by simp)] at h0 h1 h2 h3 h4
     obtain ⟨z0, e0⟩ := opn_str Tryz.underlying9 h0
     obtain ⟨l1, p1, c1, e1, s1, z1, _⟩ := open_vars h1 w1
     obtain ⟨l2, p2, c2, e2, s2, z2, _⟩ := open_vars h2 w2
     obtain ⟨l3, p3, c3, e3, s3, z3⟩ := open_strs h3 w3
     obtain ⟨l4, p4, c4, e4, s4, z4⟩ := open_sts h4 w4
     have hsum : l4.big + l1.length + l2.length + l3.length + 1 ≤ m' := by
       have hq : fk.length = 5 := hfl
       obtain ⟨k0, k1, k2, k3, k4, rfl⟩ := five hq
       simp at g0 g1 g2 g3 g4
       simp only [List.sum_cons, List.sum_nil] at hfs
       omega
     simp at e0 e1 e2 e3 e4
     subst e0; subst e1; subst e2; subst e3; subst e4
     exact ⟨⟨z0, l1, l2, l3, l4⟩, Fnc.At.mk' (s := ⟨p1, p2, p3, p4, c1, c2, c3, c4⟩) (cells_at (A := Fnc.cells ⟨z0, l1, l2, l3, l4⟩ ⟨p1, p2, p3, p4, c1, c2, c3, c4⟩) rfl hc) ⟨s1, s2, s3, s4⟩, hsum⟩
   have hfb : ∀ l : List Fnc, fnsBig l = (l.map fun g => g.body.big + g.params.length + g.vars.length + g.rets.length + 1).sum := fun l => by
     induction l with
     | nil => rfl
     | cons g r ih => rw [fnsBig, List.map_cons, List.sum_cons, ih]
   exact ⟨l, _, cap, by rw [hll], ⟨by omega, .inr ⟨bb, off, rfl, hbl, hr⟩⟩, by rw [hfb]; omega, by omega⟩

theorem open_prgB {fuel : Nat} {cs : List Value} {x : DataW H × List MemPlace} (h : DataW.trod enc Tryz.prog w 0 (fun _ => true) true fuel 25 cs = some x) (hw : Rows.uptoBulk x.1 ≤ 1048576) :
   ∃ (l : Prg) (p q : Option Addr) (c d : Nat), cs = [.slice p l.regs.length c, .slice q l.fns.length d] ∧ l.Ok w w.heap.size p q ∧ fnsBig l.fns ≤ 1048576 ∧ l.regs.length ≤ c ∧ l.fns.length ≤ d := by
 obtain ⟨n, fk, rfl, hl, hfl, hfs, hf⟩ := struct_opb Tryz.underlying25 h hw
 rw [show Tryz.prog.cellsOf 25 = 2 by kernel_rfl] at hl
 obtain ⟨a, b, rfl⟩ := twoL hl
 obtain ⟨y0, h0, g0, w0⟩ := hf 0 _ rfl
 obtain ⟨y1, h1, g1, w1⟩ := hf 1 _ rfl
 replace h0 : DataW.trod enc Tryz.prog w 0 (fun _ => true) true n 22 (List.take (Tryz.prog.cellsOf 22) [a, b]) = some y0 := h0
 replace h1 : DataW.trod enc Tryz.prog w 0 (fun _ => true) true n 23 (List.take (Tryz.prog.cellsOf 23) [b]) = some y1 := h1
 rw [cOne _ (by simp)] at h0 h1
 obtain ⟨l0, p0, c0, e0, s0, _, k0⟩ := open_regs h0 w0
 obtain ⟨l1, p1, c1, e1, s1, z1, k1⟩ := open_fns h1 w1
 simp at e0 e1
 subst e0; subst e1
 exact ⟨⟨l0, l1⟩, p0, p1, c0, c1, rfl, ⟨s0, s1⟩, by show fnsBig l1 ≤ _; omega, k0, k1⟩
end
end Go.Proofs.YtihmibggonffdaaGreat
