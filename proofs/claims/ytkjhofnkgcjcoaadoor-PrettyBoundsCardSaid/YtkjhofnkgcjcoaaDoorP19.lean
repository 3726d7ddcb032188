/- Expressions, statements, functions and programs that come in. -/
import Derived.Test.YtkjhofnkgcjcoaaDoorRows
import Derived.Test.YtkjhofnkgcjcoaaDoorP08
import Derived.ProofKit
import Derived.OpenShut
import Derived.Handed
namespace Go.Proofs.YtkjhofnkgcjcoaaDoor
open Go.ChangeShapes Go.WideShapes Go.ChangeAt Go.RowKit

theorem add_none (b o i : Nat) : (⟨b, o, none⟩ : Addr).add i = ⟨b, o + i, none⟩ := by unfold Addr.add; split <;> simp_all
section
variable {H : Type} {enc : TypeId × Value → H} {w : World}
/-- each piece of it takes no more than there is room for -/
def Wide (t : TypeId) (d : DataW H) : Prop := ∀ n ∈ d.weights Tryd.prog t, n ≤ reachBytes
theorem wide_all {e : TypeId} : ∀ {l : List (DataW H)}, (∀ n ∈ DataW.weightsAll Tryd.prog e l, n ≤ reachBytes) → ∀ d ∈ l, Wide e d
  | [], _, _, h => by cases h
  | x :: r, H, d, h => by
    simp only [DataW.weightsAll, List.mem_append] at H
    rcases List.mem_cons.1 h with rfl | h
    · exact fun n hn => H n (.inl hn)
    · exact wide_all (fun n hn => H n (.inr hn)) d h
theorem wide_each : ∀ {ts : List TypeId} {l : List (DataW H)}, (∀ n ∈ DataW.weightsEach Tryd.prog ts l, n ≤ reachBytes) → ∀ (i : Nat) (t : TypeId) (d : DataW H), ts[i]? = some t → l[i]? = some d → Wide t d
  | [], _, _, i, t, d, h, _ => by simp at h
  | _ :: _, [], _, i, t, d, _, h => by simp at h
  | t' :: ts, x :: r, H, i, t, d, h, g => by
    simp only [DataW.weightsEach, List.mem_append] at H
    cases i with
    | zero => simp at h g; subst h; subst g; exact fun n hn => H n (.inl hn)
    | succ i => exact wide_each (fun n hn => H n (.inr hn)) i t d (by simpa using h) (by simpa using g)
/-- a slice: its elements' cells and readings -/
theorem slice_opn {t e : TypeId} {fuel k : Nat} {cs : List Value} {x : DataW H × List MemPlace} (hk : Tryd.prog.cellsOf e = k) (hk0 : 0 < k) (hbe : 1 ≤ Tryd.prog.bytesOf e) (ht : Tryd.prog.underlying t = some (.slice e)) (h : DataW.trod enc Tryd.prog w 0 (fun _ => true) true fuel t cs = some x) (hw : Wide t x.1) :
    ∃ (n : Nat) (p : Option Addr) (len c : Nat), fuel = n + 1 ∧ cs = [.slice p len c] ∧ len ≤ 140737488355328 ∧
      (len = 0 ∨ ∃ b off, p = some ⟨b, off, none⟩ ∧ b < w.heap.size ∧ ∀ i, i < len → ∃ cs' y, cs'.length = k ∧ (∀ j, j < k → w.cell? ⟨b, off + i * k + j, none⟩ = cs'[j]?) ∧ DataW.trod enc Tryd.prog w 0 (fun _ => true) true n e cs' = some y ∧ Wide e y.1) := by
  obtain ⟨n, rfl⟩ : ∃ n, fuel = n + 1 := by cases fuel with | zero => simp [DataW.trod] at h | succ n => exact ⟨n, rfl⟩
  rcases DataW.trod_slice ht h with ⟨rfl, rfl⟩ | ⟨a, len, cap, elems, rest, n', hn, rfl, rfl, _, _, _, hlen, hel, _, _⟩
  · exact ⟨n, none, 0, 0, rfl, rfl, by omega, .inl rfl⟩
  · obtain rfl : n = n' := by omega
    rw [hk] at hel
    unfold Wide at hw
    simp only [DataW.weights, ht, List.mem_cons, List.mem_append] at hw
    have h1 := hw _ (.inl rfl)
    simp only [List.length_map] at h1
    have h2 : elems.length + rest.length ≤ (elems.length + rest.length) * Tryd.prog.bytesOf e := Nat.le_mul_of_pos_right _ hbe
    have h3 : ∀ d ∈ elems.map (·.1), Wide e d := wide_all fun n hn => hw n (.inr (.inl hn))
    unfold reachBytes at h1
    refine ⟨n, some a, len, cap, rfl, rfl, by omega, ?_⟩
    by_cases h0 : len = 0
    · exact .inl h0
    · right
      have key : ∀ i, i < len → ∃ cs' y, cs'.length = k ∧ (∀ j, j < k → w.cell? ((a.add (i * k)).add j) = cs'[j]?) ∧ DataW.trod enc Tryd.prog w 0 (fun _ => true) true n e cs' = some y ∧ Wide e y.1 := by
        intro i hi
        have := hel i hi
        rw [List.getElem?_eq_getElem (by omega)] at this
        obtain ⟨cs', h1, h2⟩ := Option.bind_eq_some_iff.1 this
        obtain ⟨_, hl, hc⟩ := World.cells?_some h1
        exact ⟨cs', _, hl, hc, h2, h3 _ (List.mem_map.2 ⟨_, List.getElem_mem (by omega), rfl⟩)⟩
      obtain ⟨cs0, y0, hl0, hc0, _⟩ := key 0 (by omega)
      have hcell := hc0 0 hk0
      rw [List.getElem?_eq_getElem (by omega)] at hcell
      obtain ⟨b, off, spot⟩ := a
      have hspot : spot = none := by simpa [Addr.add] using World.cell?_spot hcell
      subst hspot
      refine ⟨b, off, rfl, by simpa [Addr.add] using World.block_lt_of_cell? _ _ hcell, fun i hi => ?_⟩
      obtain ⟨cs', y, hl, hc, hr, hy⟩ := key i hi
      exact ⟨cs', y, hl, fun j hj => by have h1 := hc j hj; rw [add_none, add_none] at h1; exact h1, hr, hy⟩
/-- a struct: its fields' readings -/
theorem struct_opn {t : TypeId} {fs : Array Field} {fuel : Nat} {cs : List Value} {x : DataW H × List MemPlace} (ht : Tryd.prog.underlying t = some (.struct fs)) (h : DataW.trod enc Tryd.prog w 0 (fun _ => true) true fuel t cs = some x) (hw : Wide t x.1) :
    ∃ n, fuel = n + 1 ∧ cs.length = Tryd.prog.cellsOf t ∧ ∀ (i : Nat) (f : Field), fs[i]? = some f → ∃ y, DataW.trod enc Tryd.prog w 0 (fun _ => true) true n f.type ((cs.drop f.offset).take (Tryd.prog.cellsOf f.type)) = some y ∧ Wide f.type y.1 := by
  obtain ⟨xs, n, rfl, rfl, hl, hx, hf⟩ := DataW.trod_struct ht h
  refine ⟨n, rfl, hl, fun i f hi => ?_⟩
  have hlt : i < xs.length := by rw [hx]; exact (Array.getElem?_eq_some_iff.1 hi).1
  have h1 := hf i f hi
  rw [List.getElem?_eq_getElem hlt] at h1
  refine ⟨_, h1, ?_⟩
  unfold Wide at hw
  simp only [DataW.weights, ht] at hw
  refine wide_each hw i f.type _ ?_ ?_
  · rw [List.getElem?_map, Array.getElem?_toList, hi]; rfl
  · rw [List.getElem?_map, List.getElem?_eq_getElem hlt]; rfl

theorem opn_int {t : TypeId} {n : Nat} {cs : List Value} {y : DataW H × List MemPlace} (ht : Tryd.prog.underlying t = some (.int .i64)) (h : DataW.trod enc Tryd.prog w 0 (fun _ => true) true n t cs = some y) : ∃ z : Int, cs = [.int .i64 z] ∧ -9223372036854775808 ≤ z ∧ z ≤ 9223372036854775807 := by
  obtain ⟨z, e, _, hz⟩ := DataW.trod_int ht h
  exact ⟨z, e, by simp [Lit.wf, IntKind.bits, IntKind.signed, IntKind.max, IntKind.min] at hz; omega⟩
theorem opn_u64 {t : TypeId} {n : Nat} {cs : List Value} {y : DataW H × List MemPlace} (ht : Tryd.prog.underlying t = some (.int .u64)) (h : DataW.trod enc Tryd.prog w 0 (fun _ => true) true n t cs = some y) : ∃ z : Nat, cs = [.int .u64 (z : Int)] ∧ z < 18446744073709551616 := by
  obtain ⟨z, e, _, hz⟩ := DataW.trod_int ht h
  have hb : 0 ≤ z ∧ z < 18446744073709551616 := by simp [Lit.wf, IntKind.bits, IntKind.signed, IntKind.max, IntKind.min] at hz; omega
  exact ⟨z.toNat, by rw [e, show ((z.toNat : Nat) : Int) = z by omega], by omega⟩
theorem opn_str {t : TypeId} {n : Nat} {cs : List Value} {y : DataW H × List MemPlace} (ht : Tryd.prog.underlying t = some .string) (h : DataW.trod enc Tryd.prog w 0 (fun _ => true) true n t cs = some y) : ∃ l : List UInt8, cs = [.string (str l)] := by
  obtain ⟨z, e, _, _⟩ := DataW.trod_string ht h
  exact ⟨z.data.toList, by rw [e, str_eta]⟩
theorem opn_bool {t : TypeId} {n : Nat} {cs : List Value} {y : DataW H × List MemPlace} (ht : Tryd.prog.underlying t = some .bool) (h : DataW.trod enc Tryd.prog w 0 (fun _ => true) true n t cs = some y) : ∃ z : Bool, cs = [.bool z] := by
  obtain ⟨z, e, _⟩ := DataW.trod_bool ht h
  exact ⟨z, e⟩
theorem four {α : Type} {cs : List α} (h : cs.length = 4) : ∃ a b c d, cs = [a, b, c, d] := by
  match cs, h with
  | [a, b, c, d], _ => exact ⟨a, b, c, d, rfl⟩
theorem one {α : Type} {cs : List α} (h : cs.length = 1) : ∃ a, cs = [a] := by
  match cs, h with
  | [a], _ => exact ⟨a, rfl⟩
theorem Exs.of {B b : Nat} : ∀ (n o : Nat), (∀ i, i < n → ∃ x : Ex, x.At w B b (o + i * 4)) → ∃ l : Exs, l.len = n ∧ l.At w B b o
  | 0, _, _ => ⟨.nil, rfl, trivial⟩
  | n + 1, o, h => by
    obtain ⟨x, hx⟩ := h 0 (Nat.succ_pos _)
    obtain ⟨l, hl, hr⟩ := Exs.of n (o + 4) fun i hi => by
      obtain ⟨y, hy⟩ := h (i + 1) (by omega)
      exact ⟨y, by rw [show o + 4 + i * 4 = o + (i + 1) * 4 by omega]; exact hy⟩
    exact ⟨.cons x l, by simp [Exs.len, hl], by simpa using hx, hr⟩
theorem Sts.of {B b : Nat} : ∀ (n o : Nat), (∀ i, i < n → ∃ x : St, x.At w B b (o + i * 16)) → ∃ l : Sts, l.len = n ∧ l.At w B b o
  | 0, _, _ => ⟨.nil, rfl, trivial⟩
  | n + 1, o, h => by
    obtain ⟨x, hx⟩ := h 0 (Nat.succ_pos _)
    obtain ⟨l, hl, hr⟩ := Sts.of n (o + 16) fun i hi => by
      obtain ⟨y, hy⟩ := h (i + 1) (by omega)
      exact ⟨y, by rw [show o + 16 + i * 16 = o + (i + 1) * 16 by omega]; exact hy⟩
    exact ⟨.cons x l, by simp [Sts.len, hl], by simpa using hx, hr⟩
theorem Ex.At.mk' {B b o : Nat} {x : Ex} {p : Option Addr} {c : Nat} (h0 : w.cell? ⟨b, o, none⟩ = some (.int .i64 x.op)) (h1 : w.cell? ⟨b, o + 1, none⟩ = some (.int .u64 (x.word : Int))) (h2 : w.cell? ⟨b, o + 2, none⟩ = some (.string (str x.name))) (h3 : w.cell? ⟨b, o + 3, none⟩ = some (.slice p x.args.len c)) (h : x.Ok w B p) : x.At w B b o := by
  obtain ⟨op, wd, nm, ar⟩ := x
  exact ⟨⟨h0, h1, h2, h.2⟩, ⟨p, c, h3, h.1⟩⟩
theorem cellsEx : Tryd.prog.cellsOf 29 = 4 := by kernel_rfl
theorem cellsSt : Tryd.prog.cellsOf 35 = 16 := by kernel_rfl
theorem cOne (t : TypeId) (h : t = 9 ∨ t = 3 ∨ t = 26 ∨ t = 4 ∨ t = 25 ∨ t = 31 ∨ t = 46 ∨ t = 27 ∨ t = 33 ∨ t = 32 ∨ t = 37 ∨ t = 41 ∨ t = 40) : Tryd.prog.cellsOf t = 1 := by
  rcases h with rfl | rfl | rfl | rfl | rfl | rfl | rfl | rfl | rfl | rfl | rfl | rfl | rfl <;> kernel_rfl

theorem open_ex : ∀ (fuel : Nat) (cs : List Value) (x : DataW H × List MemPlace), DataW.trod enc Tryd.prog w 0 (fun _ => true) true fuel 29 cs = some x → Wide 29 x.1 →
    ∃ (e : Ex) (p : Option Addr) (c : Nat), cs = [.int .i64 e.op, .int .u64 (e.word : Int), .string (str e.name), .slice p e.args.len c] ∧ e.Ok w w.heap.size p := by
  intro fuel
  induction fuel using Nat.strongRecOn with
  | ind fuel ih =>
    intro cs x h hw
    obtain ⟨n, rfl, hl, hf⟩ := struct_opn Tryd.underlying29 h hw
    rw [cellsEx] at hl
    obtain ⟨a, b, c, d, rfl⟩ := four hl
    obtain ⟨y0, h0, w0⟩ := hf 0 _ rfl
    obtain ⟨y1, h1, w1⟩ := hf 1 _ rfl
    obtain ⟨y2, h2, w2⟩ := hf 2 _ rfl
    obtain ⟨y3, h3, w3⟩ := hf 3 _ rfl
    have h0' : DataW.trod enc Tryd.prog w 0 (fun _ => true) true n 25 (List.take (Tryd.prog.cellsOf 25) [a, b, c, d]) = some y0 := h0
    have h1' : DataW.trod enc Tryd.prog w 0 (fun _ => true) true n 26 (List.take (Tryd.prog.cellsOf 26) [b, c, d]) = some y1 := h1
    have h2' : DataW.trod enc Tryd.prog w 0 (fun _ => true) true n 9 (List.take (Tryd.prog.cellsOf 9) [c, d]) = some y2 := h2
    have h3' : DataW.trod enc Tryd.prog w 0 (fun _ => true) true n 27 (List.take (Tryd.prog.cellsOf 27) [d]) = some y3 := h3
    rw [cOne _ (by simp)] at h0' h1' h2' h3'
    obtain ⟨z0, e0, _, _⟩ := opn_int Tryd.underlying25 h0'
    obtain ⟨z1, e1, b1⟩ := opn_u64 Tryd.underlying26 h1'
    obtain ⟨z2, e2⟩ := opn_str Tryd.underlying9 h2'
    obtain ⟨m, p, len, cap, hn, e3, hlen, hel⟩ := slice_opn cellsEx (by decide) (by decide +kernel) Tryd.underlying27 h3' w3
    simp at e0 e1 e2 e3
    subst e0; subst e1; subst e2; subst e3
    obtain ⟨l, rfl, hin⟩ : ∃ l : Exs, l.len = len ∧ l.In w w.heap.size p := by
      rcases hel with h0 | ⟨bb, off, rfl, hbl, hel⟩
      · exact ⟨.nil, h0.symm, by simp [Exs.len], .inl rfl⟩
      · obtain ⟨l, hl, hr⟩ := Exs.of (w := w) (B := w.heap.size) (b := bb) len off fun i hi => by
          obtain ⟨cs', y, hl, hc, hr, hy⟩ := hel i hi
          obtain ⟨e, q, cq, rfl, hok⟩ := ih m (by omega) cs' y hr hy
          exact ⟨e, Ex.At.mk' (hc 0 (by decide)) (hc 1 (by decide)) (hc 2 (by decide)) (hc 3 (by decide)) hok⟩
        exact ⟨l, hl, by rw [hl]; exact hlen, .inr ⟨bb, off, rfl, hbl, hr⟩⟩
    exact ⟨.mk z0 z1 z2 l, p, cap, rfl, hin, b1⟩
theorem open_exs {fuel : Nat} {cs : List Value} {x : DataW H × List MemPlace} (h : DataW.trod enc Tryd.prog w 0 (fun _ => true) true fuel 27 cs = some x) (hw : Wide 27 x.1) :
    ∃ (l : Exs) (p : Option Addr) (c : Nat), cs = [.slice p l.len c] ∧ l.In w w.heap.size p := by
  obtain ⟨m, p, len, cap, hn, rfl, hlen, hel⟩ := slice_opn cellsEx (by decide) (by decide +kernel) Tryd.underlying27 h hw
  obtain ⟨l, rfl, hin⟩ : ∃ l : Exs, l.len = len ∧ l.In w w.heap.size p := by
    rcases hel with h0 | ⟨bb, off, rfl, hbl, hel⟩
    · exact ⟨.nil, h0.symm, by simp [Exs.len], .inl rfl⟩
    · obtain ⟨l, hl, hr⟩ := Exs.of (w := w) (B := w.heap.size) (b := bb) len off fun i hi => by
        obtain ⟨cs', y, hl, hc, hr, hy⟩ := hel i hi
        obtain ⟨e, q, cq, rfl, hok⟩ := open_ex m cs' y hr hy
        exact ⟨e, Ex.At.mk' (hc 0 (by decide)) (hc 1 (by decide)) (hc 2 (by decide)) (hc 3 (by decide)) hok⟩
      exact ⟨l, hl, by rw [hl]; exact hlen, .inr ⟨bb, off, rfl, hbl, hr⟩⟩
  exact ⟨l, p, cap, rfl, hin⟩
theorem open_strs {fuel : Nat} {cs : List Value} {x : DataW H × List MemPlace} (h : DataW.trod enc Tryd.prog w 0 (fun _ => true) true fuel 32 cs = some x) (hw : Wide 32 x.1) :
    ∃ (l : List (List UInt8)) (p : Option Addr) (c : Nat), cs = [.slice p l.length c] ∧ (l.length ≤ c ∧ RowIn w.heap.size (StrAt w) 1 l p) := by
  obtain ⟨m, p, len, cap, hn, rfl, hlen, hel⟩ := slice_opn (cOne 9 (by simp)) (by decide) (by decide +kernel) Tryd.underlying32 h hw
  have hcap : len ≤ cap := by
    rcases DataW.trod_slice Tryd.underlying32 h with H | H
    · obtain ⟨h1, _⟩ := H
      cases h1
      exact Nat.le_refl _
    · obtain ⟨a, len', cap', elems, rest, n', _, h1, _, _, h2, h3, _⟩ := H
      cases h1
      exact h2
  rcases hel with h0 | ⟨bb, off, rfl, hbl, hel⟩
  · exact ⟨[], p, cap, by rw [h0]; rfl, by simp, by simp, .inl rfl⟩
  · obtain ⟨l, rfl, hr⟩ := Row.of (A := StrAt w) (k := 1) (b := bb) len off fun i hi => by
      obtain ⟨cs', y, hl, hc, hr, hy⟩ := hel i hi
      obtain ⟨s, rfl⟩ := opn_str Tryd.underlying9 hr
      exact ⟨s, hc 0 (by decide)⟩
    exact ⟨l, _, cap, rfl, hcap, hlen, .inr ⟨bb, off, rfl, hbl, hr⟩⟩
end
end Go.Proofs.YtkjhofnkgcjcoaaDoor
/- Statements, functions and programs that come in. -/
namespace Go.Proofs.YtkjhofnkgcjcoaaDoor
open Go.ChangeShapes Go.WideShapes Go.ChangeAt Go.RowKit

section
variable {H : Type} {enc : TypeId × Value → H} {w : World}
theorem five {α : Type} {cs : List α} (h : cs.length = 5) : ∃ a b c d e, cs = [a, b, c, d, e] := by
  match cs, h with
  | [a, b, c, d, e], _ => exact ⟨a, b, c, d, e, rfl⟩
theorem twoL {α : Type} {cs : List α} (h : cs.length = 2) : ∃ a b, cs = [a, b] := by
  match cs, h with
  | [a, b], _ => exact ⟨a, b, rfl⟩
theorem sixteen {α : Type} {cs : List α} (h : cs.length = 16) : ∃ a b c d e f g h i j k l m n o p, cs = [a, b, c, d, e, f, g, h, i, j, k, l, m, n, o, p] := by
  match cs, h with
  | [a, b, c, d, e, f, g, h, i, j, k, l, m, n, o, p], _ => exact ⟨a, b, c, d, e, f, g, h, i, j, k, l, m, n, o, p, rfl⟩
theorem St.At.mk' {B b o : Nat} {x : St} {s : StP} (h : ∀ j v, (x.cells s)[j]? = some v → w.cell? ⟨b, o + j, none⟩ = some v) (hok : x.Ok w B s) : x.At w B b o := by
  obtain ⟨kd, nm, ns, e, a, as', lo, hi, bd, el⟩ := x
  obtain ⟨s1, he, ha, s2, s3, s4, h4, h5⟩ := hok
  exact ⟨⟨h 0 _ rfl, h 1 _ rfl, h 12 _ rfl, h 13 _ rfl, h4, h5⟩, ⟨_, _, h 2 _ rfl, s1⟩, Ex.At.mk' (h 3 _ rfl) (h 4 _ rfl) (h 5 _ rfl) (h 6 _ rfl) he, Ex.At.mk' (h 7 _ rfl) (h 8 _ rfl) (h 9 _ rfl) (h 10 _ rfl) ha,
    ⟨_, _, h 11 _ rfl, s2⟩, ⟨_, _, h 14 _ rfl, s3⟩, ⟨_, _, h 15 _ rfl, s4⟩⟩
theorem cells_at {b o k : Nat} {A : Array Value} (hA : A.size = k) (hc : ∀ j, j < k → w.cell? ⟨b, o + j, none⟩ = A.toList[j]?) : ∀ j v, A[j]? = some v → w.cell? ⟨b, o + j, none⟩ = some v := by
  intro j v hv
  have hj : j < A.size := (Array.getElem?_eq_some_iff.1 hv).1
  rw [hc j (by omega), Array.getElem?_toList, hv]
theorem open_st : ∀ (fuel : Nat) (cs : List Value) (x : DataW H × List MemPlace), DataW.trod enc Tryd.prog w 0 (fun _ => true) true fuel 35 cs = some x → Wide 35 x.1 →
    ∃ (e : St) (s : StP), cs = (e.cells s).toList ∧ e.Ok w w.heap.size s := by
  intro fuel
  induction fuel using Nat.strongRecOn with
  | ind fuel ih =>
    intro cs x h hw
    have key : ∀ (fl : Nat), fl < fuel → ∀ (cs : List Value) (x : DataW H × List MemPlace), DataW.trod enc Tryd.prog w 0 (fun _ => true) true fl 33 cs = some x → Wide 33 x.1 →
        ∃ (l : Sts) (p : Option Addr) (c : Nat), cs = [.slice p l.len c] ∧ l.In w w.heap.size p := by
      intro fl hfl cs x h hw
      obtain ⟨m, p, len, cap, hn, rfl, hlen, hel⟩ := slice_opn cellsSt (by decide) (by decide +kernel) Tryd.underlying33 h hw
      obtain ⟨l, rfl, hin⟩ : ∃ l : Sts, l.len = len ∧ l.In w w.heap.size p := by
        rcases hel with h0 | ⟨bb, off, rfl, hbl, hel⟩
        · exact ⟨.nil, h0.symm, by simp [Sts.len], .inl rfl⟩
        · obtain ⟨l, hl, hr⟩ := Sts.of (w := w) (B := w.heap.size) (b := bb) len off fun i hi => by
            obtain ⟨cs', y, hl, hc, hr, hy⟩ := hel i hi
            obtain ⟨e, s, rfl, hok⟩ := ih m (by omega) cs' y hr hy
            exact ⟨e, St.At.mk' (cells_at (A := e.cells s) rfl hc) hok⟩
          exact ⟨l, hl, by rw [hl]; exact hlen, .inr ⟨bb, off, rfl, hbl, hr⟩⟩
      exact ⟨l, p, cap, rfl, hin⟩
    obtain ⟨n, rfl, hl, hf⟩ := struct_opn Tryd.underlying35 h hw
    rw [cellsSt] at hl
    obtain ⟨c0, c1, c2, c3, c4, c5, c6, c7, c8, c9, c10, c11, c12, c13, c14, c15, rfl⟩ := sixteen hl
    obtain ⟨y0, h0, w0⟩ := hf 0 _ rfl
    obtain ⟨y1, h1, w1⟩ := hf 1 _ rfl
    obtain ⟨y2, h2, w2⟩ := hf 2 _ rfl
    obtain ⟨y3, h3, w3⟩ := hf 3 _ rfl
    obtain ⟨y4, h4, w4⟩ := hf 4 _ rfl
    obtain ⟨y5, h5, w5⟩ := hf 5 _ rfl
    obtain ⟨y6, h6, w6⟩ := hf 6 _ rfl
    obtain ⟨y7, h7, w7⟩ := hf 7 _ rfl
    obtain ⟨y8, h8, w8⟩ := hf 8 _ rfl
    obtain ⟨y9, h9, w9⟩ := hf 9 _ rfl
    clear hf
    replace h0 : DataW.trod enc Tryd.prog w 0 (fun _ => true) true n 31 (List.take (Tryd.prog.cellsOf 31) [c0, c1, c2, c3, c4, c5, c6, c7, c8, c9, c10, c11, c12, c13, c14, c15]) = some y0 := h0
    replace h1 : DataW.trod enc Tryd.prog w 0 (fun _ => true) true n 9 (List.take (Tryd.prog.cellsOf 9) [c1, c2, c3, c4, c5, c6, c7, c8, c9, c10, c11, c12, c13, c14, c15]) = some y1 := h1
    replace h2 : DataW.trod enc Tryd.prog w 0 (fun _ => true) true n 32 (List.take (Tryd.prog.cellsOf 32) [c2, c3, c4, c5, c6, c7, c8, c9, c10, c11, c12, c13, c14, c15]) = some y2 := h2
    replace h3 : DataW.trod enc Tryd.prog w 0 (fun _ => true) true n 29 (List.take (Tryd.prog.cellsOf 29) [c3, c4, c5, c6, c7, c8, c9, c10, c11, c12, c13, c14, c15]) = some y3 := h3
    replace h4 : DataW.trod enc Tryd.prog w 0 (fun _ => true) true n 29 (List.take (Tryd.prog.cellsOf 29) [c7, c8, c9, c10, c11, c12, c13, c14, c15]) = some y4 := h4
    replace h5 : DataW.trod enc Tryd.prog w 0 (fun _ => true) true n 27 (List.take (Tryd.prog.cellsOf 27) [c11, c12, c13, c14, c15]) = some y5 := h5
    replace h6 : DataW.trod enc Tryd.prog w 0 (fun _ => true) true n 26 (List.take (Tryd.prog.cellsOf 26) [c12, c13, c14, c15]) = some y6 := h6
    replace h7 : DataW.trod enc Tryd.prog w 0 (fun _ => true) true n 26 (List.take (Tryd.prog.cellsOf 26) [c13, c14, c15]) = some y7 := h7
    replace h8 : DataW.trod enc Tryd.prog w 0 (fun _ => true) true n 33 (List.take (Tryd.prog.cellsOf 33) [c14, c15]) = some y8 := h8
    replace h9 : DataW.trod enc Tryd.prog w 0 (fun _ => true) true n 33 (List.take (Tryd.prog.cellsOf 33) [c15]) = some y9 := h9
    rw [cOne _ (by simp)] at h0 h1 h2 h5 h6 h7 h8 h9
    rw [cellsEx] at h3 h4
    obtain ⟨z0, e0, _, _⟩ := opn_int Tryd.underlying31 h0
    obtain ⟨z1, e1⟩ := opn_str Tryd.underlying9 h1
    obtain ⟨ns, pn, cn, e2, hns⟩ := open_strs h2 w2
    obtain ⟨xe, pe, ce, e3, hxe⟩ := open_ex n _ _ h3 w3
    obtain ⟨xa, pa, ca, e4, hxa⟩ := open_ex n _ _ h4 w4
    obtain ⟨gs, pg, cg, e5, hgs⟩ := open_exs h5 w5
    obtain ⟨lo, e6, hlo⟩ := opn_u64 Tryd.underlying26 h6
    obtain ⟨hi, e7, hhi⟩ := opn_u64 Tryd.underlying26 h7
    obtain ⟨bd, pb, cb, e8, hbd⟩ := key n (by omega) _ _ h8 w8
    obtain ⟨el, pl, cl, e9, hel⟩ := key n (by omega) _ _ h9 w9
    simp at e0 e1 e2 e3 e4 e5 e6 e7 e8 e9
    obtain ⟨rfl, rfl, rfl, rfl⟩ := e3
    obtain ⟨rfl, rfl, rfl, rfl⟩ := e4
    subst e0; subst e1; subst e2; subst e5; subst e6; subst e7; subst e8; subst e9
    exact ⟨.mk z0 z1 ns xe xa gs lo hi bd el, ⟨pn, pe, pa, pg, pb, pl, cn, ce, ca, cg, cb, cl⟩, rfl, hns, hxe, hxa, hgs, hbd, hel, hlo, hhi⟩
theorem open_sts {fuel : Nat} {cs : List Value} {x : DataW H × List MemPlace} (h : DataW.trod enc Tryd.prog w 0 (fun _ => true) true fuel 33 cs = some x) (hw : Wide 33 x.1) :
    ∃ (l : Sts) (p : Option Addr) (c : Nat), cs = [.slice p l.len c] ∧ l.In w w.heap.size p := by
  obtain ⟨m, p, len, cap, hn, rfl, hlen, hel⟩ := slice_opn cellsSt (by decide) (by decide +kernel) Tryd.underlying33 h hw
  obtain ⟨l, rfl, hin⟩ : ∃ l : Sts, l.len = len ∧ l.In w w.heap.size p := by
    rcases hel with h0 | ⟨bb, off, rfl, hbl, hel⟩
    · exact ⟨.nil, h0.symm, by simp [Sts.len], .inl rfl⟩
    · obtain ⟨l, hl, hr⟩ := Sts.of (w := w) (B := w.heap.size) (b := bb) len off fun i hi => by
        obtain ⟨cs', y, hl, hc, hr, hy⟩ := hel i hi
        obtain ⟨e, s, rfl, hok⟩ := open_st m cs' y hr hy
        exact ⟨e, St.At.mk' (cells_at (A := e.cells s) rfl hc) hok⟩
      exact ⟨l, hl, by rw [hl]; exact hlen, .inr ⟨bb, off, rfl, hbl, hr⟩⟩
  exact ⟨l, p, cap, rfl, hin⟩
theorem open_vars {fuel : Nat} {cs : List Value} {x : DataW H × List MemPlace} (h : DataW.trod enc Tryd.prog w 0 (fun _ => true) true fuel 37 cs = some x) (hw : Wide 37 x.1) :
    ∃ (l : List Vr) (p : Option Addr) (c : Nat), cs = [.slice p l.length c] ∧ RowIn w.heap.size (Vr.At w) 4 l p := by
  have hk : Tryd.prog.cellsOf 48 = 4 := by kernel_rfl
  obtain ⟨m, p, len, cap, hn, rfl, hlen, hel⟩ := slice_opn hk (by decide) (by decide +kernel) Tryd.underlying37 h hw
  rcases hel with h0 | ⟨bb, off, rfl, hbl, hel⟩
  · exact ⟨[], p, cap, by rw [h0]; rfl, by simp, .inl rfl⟩
  · obtain ⟨l, rfl, hr⟩ := Row.of (A := Vr.At w) (k := 4) (b := bb) len off fun i hi => by
      obtain ⟨cs', y, hl, hc, hr, hy⟩ := hel i hi
      obtain ⟨n, rfl, hl, hf⟩ := struct_opn Tryd.underlying48 hr hy
      rw [hk] at hl
      obtain ⟨a, b, c, d, rfl⟩ := four hl
      obtain ⟨y0, h0, w0⟩ := hf 0 _ rfl
      obtain ⟨y1, h1, w1⟩ := hf 1 _ rfl
      obtain ⟨y2, h2, w2⟩ := hf 2 _ rfl
      obtain ⟨y3, h3, w3⟩ := hf 3 _ rfl
      replace h0 : DataW.trod enc Tryd.prog w 0 (fun _ => true) true n 9 (List.take (Tryd.prog.cellsOf 9) [a, b, c, d]) = some y0 := h0
      replace h1 : DataW.trod enc Tryd.prog w 0 (fun _ => true) true n 46 (List.take (Tryd.prog.cellsOf 46) [b, c, d]) = some y1 := h1
      replace h2 : DataW.trod enc Tryd.prog w 0 (fun _ => true) true n 3 (List.take (Tryd.prog.cellsOf 3) [c, d]) = some y2 := h2
      replace h3 : DataW.trod enc Tryd.prog w 0 (fun _ => true) true n 4 (List.take (Tryd.prog.cellsOf 4) [d]) = some y3 := h3
      rw [cOne _ (by simp)] at h0 h1 h2 h3
      obtain ⟨z0, e0⟩ := opn_str Tryd.underlying9 h0
      obtain ⟨z1, e1, _, _⟩ := opn_int Tryd.underlying46 h1
      obtain ⟨z2, e2, _, _⟩ := opn_int Tryd.underlying3 h2
      obtain ⟨z3, e3⟩ := opn_bool Tryd.underlying4 h3
      simp at e0 e1 e2 e3
      subst e0; subst e1; subst e2; subst e3
      exact ⟨⟨z0, z1, z2, z3⟩, hc 0 (by decide), hc 1 (by decide), hc 2 (by decide), hc 3 (by decide)⟩
    exact ⟨l, _, cap, rfl, hlen, .inr ⟨bb, off, rfl, hbl, hr⟩⟩
theorem open_regs {fuel : Nat} {cs : List Value} {x : DataW H × List MemPlace} (h : DataW.trod enc Tryd.prog w 0 (fun _ => true) true fuel 41 cs = some x) (hw : Wide 41 x.1) :
    ∃ (l : List Rgn) (p : Option Addr) (c : Nat), cs = [.slice p l.length c] ∧ RowIn w.heap.size (Rgn.At w) 4 l p := by
  have hk : Tryd.prog.cellsOf 81 = 4 := by kernel_rfl
  obtain ⟨m, p, len, cap, hn, rfl, hlen, hel⟩ := slice_opn hk (by decide) (by decide +kernel) Tryd.underlying41 h hw
  rcases hel with h0 | ⟨bb, off, rfl, hbl, hel⟩
  · exact ⟨[], p, cap, by rw [h0]; rfl, by simp, .inl rfl⟩
  · obtain ⟨l, rfl, hr⟩ := Row.of (A := Rgn.At w) (k := 4) (b := bb) len off fun i hi => by
      obtain ⟨cs', y, hl, hc, hr, hy⟩ := hel i hi
      obtain ⟨n, rfl, hl, hf⟩ := struct_opn Tryd.underlying81 hr hy
      rw [hk] at hl
      obtain ⟨a, b, c, d, rfl⟩ := four hl
      obtain ⟨y0, h0, w0⟩ := hf 0 _ rfl
      obtain ⟨y1, h1, w1⟩ := hf 1 _ rfl
      obtain ⟨y2, h2, w2⟩ := hf 2 _ rfl
      obtain ⟨y3, h3, w3⟩ := hf 3 _ rfl
      replace h0 : DataW.trod enc Tryd.prog w 0 (fun _ => true) true n 9 (List.take (Tryd.prog.cellsOf 9) [a, b, c, d]) = some y0 := h0
      replace h1 : DataW.trod enc Tryd.prog w 0 (fun _ => true) true n 3 (List.take (Tryd.prog.cellsOf 3) [b, c, d]) = some y1 := h1
      replace h2 : DataW.trod enc Tryd.prog w 0 (fun _ => true) true n 3 (List.take (Tryd.prog.cellsOf 3) [c, d]) = some y2 := h2
      replace h3 : DataW.trod enc Tryd.prog w 0 (fun _ => true) true n 4 (List.take (Tryd.prog.cellsOf 4) [d]) = some y3 := h3
      rw [cOne _ (by simp)] at h0 h1 h2 h3
      obtain ⟨z0, e0⟩ := opn_str Tryd.underlying9 h0
      obtain ⟨z1, e1, _, _⟩ := opn_int Tryd.underlying3 h1
      obtain ⟨z2, e2, _, _⟩ := opn_int Tryd.underlying3 h2
      obtain ⟨z3, e3⟩ := opn_bool Tryd.underlying4 h3
      simp at e0 e1 e2 e3
      subst e0; subst e1; subst e2; subst e3
      exact ⟨⟨z0, z1, z2, z3⟩, hc 0 (by decide), hc 1 (by decide), hc 2 (by decide), hc 3 (by decide)⟩
    exact ⟨l, _, cap, rfl, hlen, .inr ⟨bb, off, rfl, hbl, hr⟩⟩
theorem Fnc.At.mk' {B b o : Nat} {x : Fnc} {s : FncP} (h : ∀ j v, (x.cells s)[j]? = some v → w.cell? ⟨b, o + j, none⟩ = some v) (hok : x.Ok w B s) : x.At w B b o :=
  ⟨h 0 _ rfl, ⟨_, _, h 1 _ rfl, hok.1⟩, ⟨_, _, h 2 _ rfl, hok.2.1⟩, ⟨_, _, h 3 _ rfl, hok.2.2.1⟩, ⟨_, _, h 4 _ rfl, hok.2.2.2⟩⟩
theorem open_fns {fuel : Nat} {cs : List Value} {x : DataW H × List MemPlace} (h : DataW.trod enc Tryd.prog w 0 (fun _ => true) true fuel 40 cs = some x) (hw : Wide 40 x.1) :
    ∃ (l : List Fnc) (p : Option Addr) (c : Nat), cs = [.slice p l.length c] ∧ RowIn w.heap.size (Fnc.At w w.heap.size) 5 l p := by
  have hk : Tryd.prog.cellsOf 39 = 5 := by kernel_rfl
  obtain ⟨m, p, len, cap, hn, rfl, hlen, hel⟩ := slice_opn hk (by decide) (by decide +kernel) Tryd.underlying40 h hw
  rcases hel with h0 | ⟨bb, off, rfl, hbl, hel⟩
  · exact ⟨[], p, cap, by rw [h0]; rfl, by simp, .inl rfl⟩
  · obtain ⟨l, rfl, hr⟩ := Row.of (A := Fnc.At w w.heap.size) (k := 5) (b := bb) len off fun i hi => by
      obtain ⟨cs', y, hl, hc, hr, hy⟩ := hel i hi
      obtain ⟨n, rfl, hl, hf⟩ := struct_opn Tryd.underlying39 hr hy
      rw [hk] at hl
      obtain ⟨a, b, c, d, e, rfl⟩ := five hl
      obtain ⟨y0, h0, w0⟩ := hf 0 _ rfl
      obtain ⟨y1, h1, w1⟩ := hf 1 _ rfl
      obtain ⟨y2, h2, w2⟩ := hf 2 _ rfl
      obtain ⟨y3, h3, w3⟩ := hf 3 _ rfl
      obtain ⟨y4, h4, w4⟩ := hf 4 _ rfl
      replace h0 : DataW.trod enc Tryd.prog w 0 (fun _ => true) true n 9 (List.take (Tryd.prog.cellsOf 9) [a, b, c, d, e]) = some y0 := h0
      replace h1 : DataW.trod enc Tryd.prog w 0 (fun _ => true) true n 37 (List.take (Tryd.prog.cellsOf 37) [b, c, d, e]) = some y1 := h1
      replace h2 : DataW.trod enc Tryd.prog w 0 (fun _ => true) true n 37 (List.take (Tryd.prog.cellsOf 37) [c, d, e]) = some y2 := h2
      replace h3 : DataW.trod enc Tryd.prog w 0 (fun _ => true) true n 32 (List.take (Tryd.prog.cellsOf 32) [d, e]) = some y3 := h3
      replace h4 : DataW.trod enc Tryd.prog w 0 (fun _ => true) true n 33 (List.take (Tryd.prog.cellsOf 33) [e]) = some y4 := h4
      rw [cOne _ (by simp)] at h0 h1 h2 h3 h4
      obtain ⟨z0, e0⟩ := opn_str Tryd.underlying9 h0
      obtain ⟨l1, p1, c1, e1, s1⟩ := open_vars h1 w1
      obtain ⟨l2, p2, c2, e2, s2⟩ := open_vars h2 w2
      obtain ⟨l3, p3, c3, e3, s3⟩ := open_strs h3 w3
      obtain ⟨l4, p4, c4, e4, s4⟩ := open_sts h4 w4
      simp at e0 e1 e2 e3 e4
      subst e0; subst e1; subst e2; subst e3; subst e4
      exact ⟨⟨z0, l1, l2, l3, l4⟩, Fnc.At.mk' (s := ⟨p1, p2, p3, p4, c1, c2, c3, c4⟩) (cells_at (A := Fnc.cells ⟨z0, l1, l2, l3, l4⟩ ⟨p1, p2, p3, p4, c1, c2, c3, c4⟩) rfl hc) ⟨s1, s2, s3, s4⟩⟩
    exact ⟨l, _, cap, rfl, hlen, .inr ⟨bb, off, rfl, hbl, hr⟩⟩
theorem open_prg {fuel : Nat} {cs : List Value} {x : DataW H × List MemPlace} (h : DataW.trod enc Tryd.prog w 0 (fun _ => true) true fuel 43 cs = some x) (hw : Wide 43 x.1) :
    ∃ (l : Prg) (p q : Option Addr) (c d : Nat), cs = [.slice p l.regs.length c, .slice q l.fns.length d] ∧ l.Ok w w.heap.size p q := by
  obtain ⟨n, rfl, hl, hf⟩ := struct_opn Tryd.underlying43 h hw
  rw [show Tryd.prog.cellsOf 43 = 2 by kernel_rfl] at hl
  obtain ⟨a, b, rfl⟩ := twoL hl
  obtain ⟨y0, h0, w0⟩ := hf 0 _ rfl
  obtain ⟨y1, h1, w1⟩ := hf 1 _ rfl
  replace h0 : DataW.trod enc Tryd.prog w 0 (fun _ => true) true n 41 (List.take (Tryd.prog.cellsOf 41) [a, b]) = some y0 := h0
  replace h1 : DataW.trod enc Tryd.prog w 0 (fun _ => true) true n 40 (List.take (Tryd.prog.cellsOf 40) [b]) = some y1 := h1
  rw [cOne _ (by simp)] at h0 h1
  obtain ⟨l0, p0, c0, e0, s0⟩ := open_regs h0 w0
  obtain ⟨l1, p1, c1, e1, s1⟩ := open_fns h1 w1
  simp at e0 e1
  subst e0; subst e1
  exact ⟨⟨l0, l1⟩, p0, p1, c0, c1, rfl, s0, s1⟩
end
end Go.Proofs.YtkjhofnkgcjcoaaDoor
