/- Statements copied: the program's copyStmts. -/
import Derived.Test.YtkjhofnkgcjcoaaDoorP20
import Derived.Test.YtkjhofnkgcjcoaaDoorP09
import Derived.WalkMore
import Derived.Deep.RegionWith
import Derived.Deep.CutBlock
import Derived.Deep.CutRange
namespace Go.Proofs.YtkjhofnkgcjcoaaDoor
open Go.RowKit

def stC (x : St) (s : StP) : List Value :=
  [.int .i64 x.kind, .string (str x.name), .slice s.pn x.names.length s.cn, .int .i64 x.e.op, .int .u64 (x.e.word : Int), .string (str x.e.name), .slice s.pe x.e.args.len s.ce, .int .i64 x.a.op, .int .u64 (x.a.word : Int), .string (str x.a.name), .slice s.pa x.a.args.len s.ca,
    .slice s.pg x.args.len s.cg, .int .u64 (x.low : Int), .int .u64 (x.high : Int), .slice s.pb x.body.len s.cb, .slice s.pl x.els.len s.cl]
theorem stC_len (x : St) (s : StP) : (stC x s).length = 16 := rfl
theorem stC_cells (x : St) (s : StP) : stC x s = (x.cells s).toList := rfl
theorem one_stC (zs : List (St × StP)) : ∀ u ∈ encs stC zs, u.oneCell' = true := by
  intro u hu
  obtain ⟨z, _, hz⟩ := List.mem_flatMap.1 hu
  simp only [stC, List.mem_cons, List.not_mem_nil, or_false] at hz
  rcases hz with rfl | rfl | rfl | rfl | rfl | rfl | rfl | rfl | rfl | rfl | rfl | rfl | rfl | rfl | rfl | rfl <;> rfl
theorem Sts.ofRow {w : World} {N b : Nat} : ∀ (l : Sts) (o : Nat), Row (St.At w N) 16 l.toL b o → l.At w N b o
  | .nil, _, _ => trivial
  | .cons _x r, o, h => ⟨h.1, Sts.ofRow r (o + 16) h.2⟩
/-- a clone of statements -/
theorem cloneS_any (l : Sts) (p : Option Addr) (c N : Nat) (w : World) (hn : l.len ≤ 1000000) (h : l.In w N p) :
    Calls Tryd.prog 77 #[.slice p l.len c] w fun e w' => (∃ q d zs, e = .returned (.slice q l.len d) ∧ zs.map Prod.fst = l.toL ∧ (∀ z ∈ zs, z.1.Ok w N z.2) ∧ ((q = none ∧ l.len = 0) ∨ ∃ g, q = some ⟨g, 0, none⟩ ∧ w.heap.size ≤ g ∧ RowG w' g (encs stC zs))) ∧ Below w.heap.size w w' := by
  cases p with
  | none =>
    have h0 : l.len = 0 := by
      rcases h.2 with h0 | ⟨b, o, hq, _⟩
      · exact h0
      · cases hq
    rw [h0]
    refine (clone_st16_nil w c).mono ?_
    rintro e w' ⟨rfl, rfl⟩
    refine ⟨⟨none, 0, [], rfl, ?_, (fun _ hz => by cases hz), .inl ⟨rfl, rfl⟩⟩, Below.refl _ _⟩
    have := Sts.toL_len l
    rw [h0] at this
    exact (List.length_eq_zero_iff.1 this.symm).symm
  | some ad =>
    obtain ⟨zs, hm, hok, hsrc⟩ : ∃ zs : List (St × StP), zs.map Prod.fst = l.toL ∧ (∀ z ∈ zs, z.1.Ok w N z.2) ∧ Src w 16 (some ad) l.len c (encs stC zs) := by
      by_cases h0 : l.len = 0
      · have := Sts.toL_len l
        rw [h0] at this
        rw [h0, List.length_eq_zero_iff.1 this.symm]
        exact ⟨[], rfl, (fun _ hz => by cases hz), Src.nil⟩
      · rcases h.2 with h1 | ⟨b, o, hq, hb, ha⟩
        · exact absurd h1 h0
        · cases hq
          obtain ⟨zs, hm, hc, hok⟩ := Row.openZ (enc := stC) (OK := fun x s => x.Ok w N s) stC_len (fun x o hx => by
            obtain ⟨s, hc, ok⟩ := hx.open
            exact ⟨s, fun j v hv => hc j v (by rw [stC_cells, Array.getElem?_toList] at hv; exact hv), ok⟩) l.toL o (Sts.row l o ha)
          refine ⟨zs, hm, hok, Src.of ?_ hc⟩
          rw [encs_len stC_len, Sts.toL_len, ← hm, List.length_map]
    refine (clone_st16_some ad l.len c _ w hsrc (one_stC zs) hn).mono ?_
    rintro e w' ⟨⟨v, rfl, q, d, rfl, hd, hq⟩, hB⟩
    exact ⟨⟨q, d, zs, rfl, hm, hok, hq⟩, hB⟩
theorem map_str (ns : List (List UInt8)) : ∀ u ∈ ns.map (fun x => Value.string (str x)), u.oneCell' = true := by
  intro u hu
  obtain ⟨x, _, rfl⟩ := List.mem_map.1 hu
  rfl
theorem Row.ofGet1 {α : Type} {A : α → Nat → Nat → Prop} {b : Nat} : ∀ (l : List α) (o : Nat), (∀ j x, l[j]? = some x → A x b (o + j)) → Row A 1 l b o
  | [], _, _ => trivial
  | x :: r, o, h => ⟨by simpa using h 0 x rfl, Row.ofGet1 r (o + 1) fun j y hy => by have := h (j + 1) y (by simpa using hy); rw [show o + 1 + j = o + (j + 1) by omega]; exact this⟩
/-- a clone of names -/
theorem cloneN_any (ns : List (List UInt8)) (p : Option Addr) (c N : Nat) (w : World) (hn : ns.length ≤ 1000000) (h : RowIn N (StrAt w) 1 ns p) :
    Calls Tryd.prog 78 #[.slice p ns.length c] w fun e w' => (∃ q d, e = .returned (.slice q ns.length d) ∧ Fresh w.heap.size w'.heap.size w' (fun W B => ns.length ≤ d ∧ RowIn B (StrAt W) 1 ns q)) ∧ Below w.heap.size w w' := by
  cases p with
  | none =>
    have h0 : ns.length = 0 := by
      rcases h.2 with h0 | ⟨b, o, hq, _⟩
      · exact h0
      · cases hq
    have hs : ns = [] := List.length_eq_zero_iff.1 h0
    subst hs
    refine (clone_str1_nil w c).mono ?_
    rintro e w' ⟨rfl, rfl⟩
    exact ⟨⟨none, 0, rfl, fun W _ => ⟨Nat.le_refl _, Nat.zero_le _, .inl rfl⟩⟩, Below.refl _ _⟩
  | some ad =>
    have hsrc : Src w 1 (some ad) ns.length c (ns.map (fun x => Value.string (str x))) := by
      by_cases h0 : ns.length = 0
      · have hs : ns = [] := List.length_eq_zero_iff.1 h0
        subst hs
        exact Src.nil
      · rcases h.2 with h1 | ⟨b, o, hq, hb, ha⟩
        · exact absurd h1 h0
        · cases hq
          refine Src.of (by simp) fun j u hu => ?_
          rw [List.getElem?_map] at hu
          obtain ⟨x, hx, rfl⟩ := Option.map_eq_some_iff.1 hu
          have := ha.get hx
          rw [Nat.mul_one] at this
          exact this
    refine (clone_str1_some ad ns.length c _ w hsrc (map_str ns) hn).mono ?_
    rintro e w' ⟨⟨v, rfl, q, d, rfl, hd, hq⟩, hB⟩
    refine ⟨⟨q, d, rfl, fun W hW => ⟨hd, h.1, ?_⟩⟩, hB⟩
    rcases hq with ⟨_, h0⟩ | ⟨g, rfl, hg, hr⟩
    · exact .inl h0
    · refine .inr ⟨g, 0, rfl, hr.1, Row.ofGet1 ns 0 fun j x hx => ?_⟩
      show W.cell? _ = _
      rw [hW.cell hg hr.1, Nat.zero_add]
      exact hr.2.2 j _ (by rw [List.getElem?_map, hx]; rfl)
end Go.Proofs.YtkjhofnkgcjcoaaDoor
