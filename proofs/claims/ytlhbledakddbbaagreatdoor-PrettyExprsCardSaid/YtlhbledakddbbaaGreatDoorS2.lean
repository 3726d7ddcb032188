/- Expressions, statements, functions and programs that come in. -/
import Derived.Test.YtlhbledakddbbaaGreatDoorRows
import Derived.Test.YtlhbledakddbbaaGreatDoorS1
import Derived.ProofKit
import Derived.OpenShut
import Derived.Handed
namespace Go.Proofs.YtlhbledakddbbaaGreatDoor
open Go.ChangeShapes Go.WideShapes Go.ChangeAt Go.RowKit

theorem add_none (b o i : Nat) : (⟨b, o, none⟩ : Addr).add i = ⟨b, o + i, none⟩ := by unfold Addr.add; split <;> simp_all
section
variable {H : Type} {enc : TypeId × Value → H} {w : World}
/-- each piece of it takes no more than there is room for -/
def Wide (t : TypeId) (d : DataW H) : Prop := ∀ n ∈ d.weights Tryz.prog t, n ≤ reachBytes
theorem wide_all {e : TypeId} : ∀ {l : List (DataW H)}, (∀ n ∈ DataW.weightsAll Tryz.prog e l, n ≤ reachBytes) → ∀ d ∈ l, Wide e d
  | [], _, _, h => by cases h
  | x :: r, H, d, h => by
    simp only [DataW.weightsAll, List.mem_append] at H
    rcases List.mem_cons.1 h with rfl | h
    · exact fun n hn => H n (.inl hn)
    · exact wide_all (fun n hn => H n (.inr hn)) d h
theorem wide_each : ∀ {ts : List TypeId} {l : List (DataW H)}, (∀ n ∈ DataW.weightsEach Tryz.prog ts l, n ≤ reachBytes) → ∀ (i : Nat) (t : TypeId) (d : DataW H), ts[i]? = some t → l[i]? = some d → Wide t d
  | [], _, _, i, t, d, h, _ => by simp at h
  | _ :: _, [], _, i, t, d, _, h => by simp at h
  | t' :: ts, x :: r, H, i, t, d, h, g => by
    simp only [DataW.weightsEach, List.mem_append] at H
    cases i with
    | zero => simp at h g; subst h; subst g; exact fun n hn => H n (.inl hn)
    | succ i => exact wide_each (fun n hn => H n (.inr hn)) i t d (by simpa using h) (by simpa using g)
/-- a slice: its elements' cells and readings -/
theorem slice_opn {t e : TypeId} {fuel k : Nat} {cs : List Value} {x : DataW H × List MemPlace} (hk : Tryz.prog.cellsOf e = k) (hk0 : 0 < k) (hbe : 1 ≤ Tryz.prog.bytesOf e) (ht : Tryz.prog.underlying t = some (.slice e)) (h : DataW.trod enc Tryz.prog w 0 (fun _ => true) true fuel t cs = some x) (hw : Wide t x.1) :
    ∃ (n : Nat) (p : Option Addr) (len c : Nat), fuel = n + 1 ∧ cs = [.slice p len c] ∧ len ≤ 140737488355328 ∧
      (len = 0 ∨ ∃ b off, p = some ⟨b, off, none⟩ ∧ b < w.heap.size ∧ ∀ i, i < len → ∃ cs' y, cs'.length = k ∧ (∀ j, j < k → w.cell? ⟨b, off + i * k + j, none⟩ = cs'[j]?) ∧ DataW.trod enc Tryz.prog w 0 (fun _ => true) true n e cs' = some y ∧ Wide e y.1) := by
  obtain ⟨n, rfl⟩ : ∃ n, fuel = n + 1 := by cases fuel with | zero => simp [DataW.trod] at h | succ n => exact ⟨n, rfl⟩
  rcases DataW.trod_slice ht h with ⟨rfl, rfl⟩ | ⟨a, len, cap, elems, rest, n', hn, rfl, rfl, _, _, _, hlen, hel, _, _⟩
  · exact ⟨n, none, 0, 0, rfl, rfl, by omega, .inl rfl⟩
  · obtain rfl : n = n' := by omega
    rw [hk] at hel
    unfold Wide at hw
    simp only [DataW.weights, ht, List.mem_cons, List.mem_append] at hw
    have h1 := hw _ (.inl rfl)
    simp only [List.length_map] at h1
    have h2 : elems.length + rest.length ≤ (elems.length + rest.length) * Tryz.prog.bytesOf e := Nat.le_mul_of_pos_right _ hbe
    have h3 : ∀ d ∈ elems.map (·.1), Wide e d := wide_all fun n hn => hw n (.inr (.inl hn))
    unfold reachBytes at h1
    refine ⟨n, some a, len, cap, rfl, rfl, by omega, ?_⟩
    by_cases h0 : len = 0
    · exact .inl h0
    · right
      have key : ∀ i, i < len → ∃ cs' y, cs'.length = k ∧ (∀ j, j < k → w.cell? ((a.add (i * k)).add j) = cs'[j]?) ∧ DataW.trod enc Tryz.prog w 0 (fun _ => true) true n e cs' = some y ∧ Wide e y.1 := by
        intro i hi
        have := hel i hi
        rw [List.getElem?_eq_getElem (by omega)] at this
        obtain ⟨cs', h1, h2⟩ := Option.bind_eq_some_iff.1 this
        obtain ⟨_, hl, hc⟩ := World.cells?_some h1
        exact ⟨cs', _, hl, hc, h2, h3 _ (List.mem_map.2 ⟨_, List.getElem_mem (by omega), rfl⟩)⟩
      obtain ⟨cs0, y0, hl0, hc0, _⟩ := key 0 (by omega)
      have hcell := hc0 0 hk0
      rw [List.getElem?_eq_getElem (by omega)] at hcell
      obtain ⟨b, off, spot⟩ := a
      have hspot : spot = none := by simpa [Addr.add] using World.cell?_spot hcell
      subst hspot
      refine ⟨b, off, rfl, by simpa [Addr.add] using World.block_lt_of_cell? _ _ hcell, fun i hi => ?_⟩
      obtain ⟨cs', y, hl, hc, hr, hy⟩ := key i hi
      exact ⟨cs', y, hl, fun j hj => by have h1 := hc j hj; rw [add_none, add_none] at h1; exact h1, hr, hy⟩
/-- a struct: its fields' readings -/
theorem struct_opn {t : TypeId} {fs : Array Field} {fuel : Nat} {cs : List Value} {x : DataW H × List MemPlace} (ht : Tryz.prog.underlying t = some (.struct fs)) (h : DataW.trod enc Tryz.prog w 0 (fun _ => true) true fuel t cs = some x) (hw : Wide t x.1) :
    ∃ n, fuel = n + 1 ∧ cs.length = Tryz.prog.cellsOf t ∧ ∀ (i : Nat) (f : Field), fs[i]? = some f → ∃ y, DataW.trod enc Tryz.prog w 0 (fun _ => true) true n f.type ((cs.drop f.offset).take (Tryz.prog.cellsOf f.type)) = some y ∧ Wide f.type y.1 := by
  obtain ⟨xs, n, rfl, rfl, hl, hx, hf⟩ := DataW.trod_struct ht h
  refine ⟨n, rfl, hl, fun i f hi => ?_⟩
  have hlt : i < xs.length := by rw [hx]; exact (Array.getElem?_eq_some_iff.1 hi).1
  have h1 := hf i f hi
  rw [List.getElem?_eq_getElem hlt] at h1
  refine ⟨_, h1, ?_⟩
  unfold Wide at hw
  simp only [DataW.weights, ht] at hw
  refine wide_each hw i f.type _ ?_ ?_
  · rw [List.getElem?_map, Array.getElem?_toList, hi]; rfl
  · rw [List.getElem?_map, List.getElem?_eq_getElem hlt]; rfl

theorem opn_int {t : TypeId} {n : Nat} {cs : List Value} {y : DataW H × List MemPlace} (ht : Tryz.prog.underlying t = some (.int .i64)) (h : DataW.trod enc Tryz.prog w 0 (fun _ => true) true n t cs = some y) : ∃ z : Int, cs = [.int .i64 z] ∧ -9223372036854775808 ≤ z ∧ z ≤ 9223372036854775807 := by
  obtain ⟨z, e, _, hz⟩ := DataW.trod_int ht h
  exact ⟨z, e, by simp [Lit.wf, IntKind.bits, IntKind.signed, IntKind.max, IntKind.min] at hz; omega⟩
theorem opn_u64 {t : TypeId} {n : Nat} {cs : List Value} {y : DataW H × List MemPlace} (ht : Tryz.prog.underlying t = some (.int .u64)) (h : DataW.trod enc Tryz.prog w 0 (fun _ => true) true n t cs = some y) : ∃ z : Nat, cs = [.int .u64 (z : Int)] ∧ z < 18446744073709551616 := by
  obtain ⟨z, e, _, hz⟩ := DataW.trod_int ht h
  have hb : 0 ≤ z ∧ z < 18446744073709551616 := by simp [Lit.wf, IntKind.bits, IntKind.signed, IntKind.max, IntKind.min] at hz; omega
  exact ⟨z.toNat, by rw [e, show ((z.toNat : Nat) : Int) = z by omega], by omega⟩
theorem opn_str {t : TypeId} {n : Nat} {cs : List Value} {y : DataW H × List MemPlace} (ht : Tryz.prog.underlying t = some .string) (h : DataW.trod enc Tryz.prog w 0 (fun _ => true) true n t cs = some y) : ∃ l : List UInt8, cs = [.string (str l)] := by
  obtain ⟨z, e, _, _⟩ := DataW.trod_string ht h
  exact ⟨z.data.toList, by rw [e, str_eta]⟩
theorem opn_bool {t : TypeId} {n : Nat} {cs : List Value} {y : DataW H × List MemPlace} (ht : Tryz.prog.underlying t = some .bool) (h : DataW.trod enc Tryz.prog w 0 (fun _ => true) true n t cs = some y) : ∃ z : Bool, cs = [.bool z] := by
  obtain ⟨z, e, _⟩ := DataW.trod_bool ht h
  exact ⟨z, e⟩
theorem four {α : Type} {cs : List α} (h : cs.length = 4) : ∃ a b c d, cs = [a, b, c, d] := by
  match cs, h with
  | [a, b, c, d], _ => exact ⟨a, b, c, d, rfl⟩
theorem one {α : Type} {cs : List α} (h : cs.length = 1) : ∃ a, cs = [a] := by
  match cs, h with
  | [a], _ => exact ⟨a, rfl⟩
theorem Exs.of {B b : Nat} : ∀ (n o : Nat), (∀ i, i < n → ∃ x : Ex, x.At w B b (o + i * 4)) → ∃ l : Exs, l.len = n ∧ l.At w B b o
  | 0, _, _ => ⟨.nil, rfl, trivial⟩
  | n + 1, o, h => by
    obtain ⟨x, hx⟩ := h 0 (Nat.succ_pos _)
    obtain ⟨l, hl, hr⟩ := Exs.of n (o + 4) fun i hi => by
      obtain ⟨y, hy⟩ := h (i + 1) (by omega)
      exact ⟨y, by rw [show o + 4 + i * 4 = o + (i + 1) * 4 by omega]; exact hy⟩
    exact ⟨.cons x l, by simp [Exs.len, hl], by simpa using hx, hr⟩
theorem Sts.of {B b : Nat} : ∀ (n o : Nat), (∀ i, i < n → ∃ x : St, x.At w B b (o + i * 16)) → ∃ l : Sts, l.len = n ∧ l.At w B b o
  | 0, _, _ => ⟨.nil, rfl, trivial⟩
  | n + 1, o, h => by
    obtain ⟨x, hx⟩ := h 0 (Nat.succ_pos _)
    obtain ⟨l, hl, hr⟩ := Sts.of n (o + 16) fun i hi => by
      obtain ⟨y, hy⟩ := h (i + 1) (by omega)
      exact ⟨y, by rw [show o + 16 + i * 16 = o + (i + 1) * 16 by omega]; exact hy⟩
    exact ⟨.cons x l, by simp [Sts.len, hl], by simpa using hx, hr⟩
theorem Ex.At.mk' {B b o : Nat} {x : Ex} {p : Option Addr} {c : Nat} (h0 : w.cell? ⟨b, o, none⟩ = some (.int .i64 x.op)) (h1 : w.cell? ⟨b, o + 1, none⟩ = some (.int .u64 (x.word : Int))) (h2 : w.cell? ⟨b, o + 2, none⟩ = some (.string (str x.name))) (h3 : w.cell? ⟨b, o + 3, none⟩ = some (.slice p x.args.len c)) (h : x.Ok w B p) : x.At w B b o := by
  obtain ⟨op, wd, nm, ar⟩ := x
  exact ⟨⟨h0, h1, h2, h.2⟩, ⟨p, c, h3, h.1⟩⟩
theorem cellsEx : Tryz.prog.cellsOf 26 = 4 := by kernel_rfl
theorem cellsSt : Tryz.prog.cellsOf 54 = 16 := by kernel_rfl
theorem cOne (t : TypeId) (h : t = 9 ∨ t = 3 ∨ t = 23 ∨ t = 4 ∨ t = 22 ∨ t = 52 ∨ t = 78 ∨ t = 24 ∨ t = 47 ∨ t = 46 ∨ t = 45 ∨ t = 36 ∨ t = 37) : Tryz.prog.cellsOf t = 1 := by
  rcases h with rfl | rfl | rfl | rfl | rfl | rfl | rfl | rfl | rfl | rfl | rfl | rfl | rfl <;> kernel_rfl

theorem open_ex : ∀ (fuel : Nat) (cs : List Value) (x : DataW H × List MemPlace), DataW.trod enc Tryz.prog w 0 (fun _ => true) true fuel 26 cs = some x → Wide 26 x.1 →
    ∃ (e : Ex) (p : Option Addr) (c : Nat), cs = [.int .i64 e.op, .int .u64 (e.word : Int), .string (str e.name), .slice p e.args.len c] ∧ e.Ok w w.heap.size p := by
  intro fuel
  induction fuel using Nat.strongRecOn with
  | ind fuel ih =>
    intro cs x h hw
    obtain ⟨n, rfl, hl, hf⟩ := struct_opn Tryz.underlying26 h hw
    rw [cellsEx] at hl
    obtain ⟨a, b, c, d, rfl⟩ := four hl
    obtain ⟨y0, h0, w0⟩ := hf 0 _ rfl
    obtain ⟨y1, h1, w1⟩ := hf 1 _ rfl
    obtain ⟨y2, h2, w2⟩ := hf 2 _ rfl
    obtain ⟨y3, h3, w3⟩ := hf 3 _ rfl
    have h0' : DataW.trod enc Tryz.prog w 0 (fun _ => true) true n 22 (List.take (Tryz.prog.cellsOf 22) [a, b, c, d]) = some y0 := h0
    have h1' : DataW.trod enc Tryz.prog w 0 (fun _ => true) true n 23 (List.take (Tryz.prog.cellsOf 23) [b, c, d]) = some y1 := h1
    have h2' : DataW.trod enc Tryz.prog w 0 (fun _ => true) true n 9 (List.take (Tryz.prog.cellsOf 9) [c, d]) = some y2 := h2
    have h3' : DataW.trod enc Tryz.prog w 0 (fun _ => true) true n 24 (List.take (Tryz.prog.cellsOf 24) [d]) = some y3 := h3
    rw [cOne _ (by simp)] at h0' h1' h2' h3'
    obtain ⟨z0, e0, _, _⟩ := opn_int Tryz.underlying22 h0'
    obtain ⟨z1, e1, b1⟩ := opn_u64 Tryz.underlying23 h1'
    obtain ⟨z2, e2⟩ := opn_str Tryz.underlying9 h2'
    obtain ⟨m, p, len, cap, hn, e3, hlen, hel⟩ := slice_opn cellsEx (by decide) (by decide +kernel) Tryz.underlying24 h3' w3
    simp at e0 e1 e2 e3
    subst e0; subst e1; subst e2; subst e3
    obtain ⟨l, rfl, hin⟩ : ∃ l : Exs, l.len = len ∧ l.In w w.heap.size p := by
      rcases hel with h0 | ⟨bb, off, rfl, hbl, hel⟩
      · exact ⟨.nil, h0.symm, by simp [Exs.len], .inl rfl⟩
      · obtain ⟨l, hl, hr⟩ := Exs.of (w := w) (B := w.heap.size) (b := bb) len off fun i hi => by
          obtain ⟨cs', y, hl, hc, hr, hy⟩ := hel i hi
          obtain ⟨e, q, cq, rfl, hok⟩ := ih m (by omega) cs' y hr hy
          exact ⟨e, Ex.At.mk' (hc 0 (by decide)) (hc 1 (by decide)) (hc 2 (by decide)) (hc 3 (by decide)) hok⟩
        exact ⟨l, hl, by rw [hl]; exact hlen, .inr ⟨bb, off, rfl, hbl, hr⟩⟩
    exact ⟨.mk z0 z1 z2 l, p, cap, rfl, hin, b1⟩
theorem open_exs {fuel : Nat} {cs : List Value} {x : DataW H × List MemPlace} (h : DataW.trod enc Tryz.prog w 0 (fun _ => true) true fuel 24 cs = some x) (hw : Wide 24 x.1) :
    ∃ (l : Exs) (p : Option Addr) (c : Nat), cs = [.slice p l.len c] ∧ l.In w w.heap.size p := by
  obtain ⟨m, p, len, cap, hn, rfl, hlen, hel⟩ := slice_opn cellsEx (by decide) (by decide +kernel) Tryz.underlying24 h hw
  obtain ⟨l, rfl, hin⟩ : ∃ l : Exs, l.len = len ∧ l.In w w.heap.size p := by
    rcases hel with h0 | ⟨bb, off, rfl, hbl, hel⟩
    · exact ⟨.nil, h0.symm, by simp [Exs.len], .inl rfl⟩
    · obtain ⟨l, hl, hr⟩ := Exs.of (w := w) (B := w.heap.size) (b := bb) len off fun i hi => by
        obtain ⟨cs', y, hl, hc, hr, hy⟩ := hel i hi
        obtain ⟨e, q, cq, rfl, hok⟩ := open_ex m cs' y hr hy
        exact ⟨e, Ex.At.mk' (hc 0 (by decide)) (hc 1 (by decide)) (hc 2 (by decide)) (hc 3 (by decide)) hok⟩
      exact ⟨l, hl, by rw [hl]; exact hlen, .inr ⟨bb, off, rfl, hbl, hr⟩⟩
  exact ⟨l, p, cap, rfl, hin⟩
theorem open_strs {fuel : Nat} {cs : List Value} {x : DataW H × List MemPlace} (h : DataW.trod enc Tryz.prog w 0 (fun _ => true) true fuel 46 cs = some x) (hw : Wide 46 x.1) :
    ∃ (l : List (List UInt8)) (p : Option Addr) (c : Nat), cs = [.slice p l.length c] ∧ RowIn w.heap.size (StrAt w) 1 l p := by
  obtain ⟨m, p, len, cap, hn, rfl, hlen, hel⟩ := slice_opn (cOne 9 (by simp)) (by decide) (by decide +kernel) Tryz.underlying46 h hw
  rcases hel with h0 | ⟨bb, off, rfl, hbl, hel⟩
  · exact ⟨[], p, cap, by rw [h0]; rfl, by simp, .inl rfl⟩
  · obtain ⟨l, rfl, hr⟩ := Row.of (A := StrAt w) (k := 1) (b := bb) len off fun i hi => by
      obtain ⟨cs', y, hl, hc, hr, hy⟩ := hel i hi
      obtain ⟨s, rfl⟩ := opn_str Tryz.underlying9 hr
      exact ⟨s, hc 0 (by decide)⟩
    exact ⟨l, _, cap, rfl, hlen, .inr ⟨bb, off, rfl, hbl, hr⟩⟩
end
end Go.Proofs.YtlhbledakddbbaaGreatDoor
