/- A map from texts to numbers that a call makes and counts in. -/
import Derived.Test.YthdjkjnkjkakpaaM2
import Derived.Maps.OwnSet
import Derived.MapFrom
namespace Go.Proofs.Ythdjkjnkjkakpaa
open Go.RowKit

/-- entries at these texts -/
def EsOf : List MapEntry → List (List UInt8 × Nat) → Prop
  | [], [] => True
  | e :: es, x :: T => e.key = .string (str x.1) ∧ e.val = .int .i64 (x.2 : Int) ∧ EsOf es T
  | _, _ => False
def gt : List (List UInt8 × Nat) → List UInt8 → Nat
  | [], _ => 0
  | x :: T, s => if s = x.1 then x.2 else gt T s
/-- one more at a text -/
def bump : List (List UInt8 × Nat) → List UInt8 → List (List UInt8 × Nat)
  | [], s => [(s, 1)]
  | x :: T, s => if s = x.1 then (x.1, x.2 + 1) :: T else x :: bump T s
theorem gt_bump (T : List (List UInt8 × Nat)) (s s' : List UInt8) : gt (bump T s) s' = gt T s' + if s' = s then 1 else 0 := by
  induction T with
  | nil => by_cases h : s' = s <;> simp [bump, gt, h]
  | cons x T ih =>
    by_cases h : s = x.1
    · by_cases h' : s' = s
      · subst h'; simp [bump, gt, h]
      · have h2 : ¬ s' = x.1 := fun e => h' (e.trans h.symm)
        simp [bump, gt, h, h2]
    · by_cases h' : s' = x.1
      · have h2 : ¬ x.1 = s := fun e => h e.symm
        simp [bump, gt, h, h', h2]
      · simp [bump, gt, h, h', ih]
theorem beq_str (a b : List UInt8) : ((str a) == (str b)) = decide (a = b) := by
  rw [Bool.eq_iff_iff, MapKept.bytes_beq, decide_eq_true_eq]
  exact ⟨fun h => by rw [← str_data a, ← str_data b, h], fun h => by rw [h]⟩
/-- what a search finds -/
theorem find_es : ∀ (es : List MapEntry) (T : List (List UInt8 × Nat)) (s : List UInt8) (j : Nat), EsOf es T →
    (gt T s = 0 ∧ bump T s = T ++ [(s, 1)] ∧ Instr.findNow .string (.string (str s)) es j = some none) ∨
    (∃ i, Instr.findNow .string (.string (str s)) es j = some (some (j + i, .int .i64 (gt T s : Int))) ∧ (es[i]?).map (·.key) = some (.string (str s)) ∧ ∀ v, v = Value.int .i64 ((gt T s + 1 : Nat) : Int) → EsOf (es.modify i fun e => { e with key := .string (str s), val := v }) (bump T s))
  | [], [], s, j, _ => .inl ⟨rfl, rfl, rfl⟩
  | [], _ :: _, _, _, h => by simp [EsOf] at h
  | _ :: _, [], _, _, h => by simp [EsOf] at h
  | e :: es, x :: T, s, j, h => by
    obtain ⟨hk, hv, hT⟩ := h
    by_cases hs : s = x.1
    · right
      refine ⟨0, ?_, ?_, ?_⟩
      · simp [Instr.findNow, Instr.sameNow, hk, hv, gt, hs, beq_str]
      · simp [hk, hs]
      · intro v hv'
        simp [List.modify, bump, hs, EsOf, hv', gt, hT]
    · have hb : ((str s) == (str x.1)) = false := by rw [beq_str]; simpa using hs
      rcases find_es es T s (j + 1) hT with ⟨h1, h2, h3⟩ | ⟨i, h1, h2, h3⟩
      · left
        refine ⟨by simp [gt, hs, h1], by simp [bump, hs, h2], ?_⟩
        simp [Instr.findNow, Instr.sameNow, hk, hb, h3]
      · right
        refine ⟨i + 1, ?_, by simpa using h2, ?_⟩
        · simp [Instr.findNow, Instr.sameNow, hk, hb, h1, gt, hs]; omega
        · intro v hv'
          have := h3 v (by rw [hv']; simp [gt, hs])
          simp only [List.modify_succ_cons, bump, hs, if_false]
          exact ⟨hk, hv, this⟩
theorem EsOf.push : ∀ (es : List MapEntry) (T : List (List UInt8 × Nat)) (s : List UInt8) (n : Nat), EsOf es T → EsOf (es ++ [{ key := .string (str s), val := .int .i64 1, born := n }]) (T ++ [(s, 1)])
  | [], [], _, _, _ => ⟨rfl, rfl, trivial⟩
  | [], _ :: _, _, _, h => by simp [EsOf] at h
  | _ :: _, [], _, _, h => by simp [EsOf] at h
  | e :: es, x :: T, s, n, h => ⟨h.1, h.2.1, EsOf.push es T s n h.2.2⟩

/-- block b is a map that counts so -/
def Cm (w : World) (b : Nat) (f : List UInt8 → Nat) : Prop := ∃ es clock T, w.heap[b]? = some (.map es clock) ∧ EsOf es.toList T ∧ ∀ s, gt T s = f s
theorem Cm.of_block {w w' : World} {b : Nat} {f : List UInt8 → Nat} (h : Cm w b f) (e : w'.heap[b]? = w.heap[b]?) : Cm w' b f := by
  obtain ⟨es, clock, T, h1, h2⟩ := h
  exact ⟨es, clock, T, e.trans h1, h2⟩
theorem Cm.lt {w : World} {b : Nat} {f : List UInt8 → Nat} (h : Cm w b f) : b < w.heap.size := by
  obtain ⟨es, clock, T, h1, h2⟩ := h
  exact (Array.getElem?_eq_some_iff.1 h1).1
theorem Cm.later {w w' : World} {b : Nat} {f : List UInt8 → Nat} (h : Cm w b f) (hB : Below w.heap.size w w') : Cm w' b f := h.of_block (hB.block b h.lt)
theorem Cm.new (w : World) : Cm (w.alloc (.map #[] 0)) w.heap.size fun _ => 0 := ⟨#[], 0, [], heap_alloc_new _ _, trivial, fun _ => rfl⟩
section
variable {P : Program} {t k e : TypeId}
theorem Cm.look {w : World} {b : Nat} {f : List UInt8 → Nat} (h : Cm w b f) (ht : P.underlying t = some (.map k e)) (hk : P.underlying k = some .string) (hz : ∀ w, (zeroValue e).run P w = .ok (.int .i64 0) w) (s : List UInt8) :
    (Instr.lookup t (.map (some b)) (.string (str s)) false).run P w = .ok (.int .i64 (f s : Int)) w := by
  obtain ⟨es, clock, T, hb, hE, hf⟩ := h
  have hck := MapKept.run_checkKey hk (k := .string (str s)) (w := w) (show MapKept.IsKey .string (.string (str s)) from trivial)
  rw [← hf]
  rcases find_es es.toList T s 0 hE with ⟨h1, h2, h3⟩ | ⟨i, h1, h2, h3⟩
  · have hf := MapKept.run_findKey (P := P) (w := w) hk h3
    rw [h1]
    simp [Instr.lookup, run_underlying ht, MapKept.run_getObj_map hb, hck, hf, hz, Result.andThen]
  · have hf := MapKept.run_findKey (P := P) (w := w) hk h1
    simp [Instr.lookup, run_underlying ht, MapKept.run_getObj_map hb, hck, hf, Result.andThen]
theorem Cm.put {w : World} {b : Nat} {f : List UInt8 → Nat} (h : Cm w b f) (ht : P.underlying t = some (.map k e)) (hk : P.underlying k = some .string) (s : List UInt8) :
    ∃ w', (Instr.mapUpdate t (.map (some b)) (.string (str s)) (.int .i64 ((f s + 1 : Nat) : Int))).run P w = .ok () w' ∧ Cm w' b (fun s' => f s' + if s' = s then 1 else 0) ∧ w'.heap.size = w.heap.size ∧ (∀ j, j ≠ b → w'.heap[j]? = w.heap[j]?) ∧ w'.os = w.os ∧ w'.tape = w.tape ∧ w'.output = w.output := by
  obtain ⟨es, clock, T, hb, hE, hf⟩ := h
  have hck := MapKept.run_checkKey hk (k := .string (str s)) (w := w) (show MapKept.IsKey .string (.string (str s)) from trivial)
  have hlt : b < w.heap.size := (Array.getElem?_eq_some_iff.1 hb).1
  have key : ∀ es' clock' T', EsOf es'.toList T' → T' = bump T s → (∃ w', w' = { w with heap := w.heap.setIfInBounds b (.map es' clock') } ∧ Cm w' b (fun s' => f s' + if s' = s then 1 else 0) ∧ w'.heap.size = w.heap.size ∧ (∀ j, j ≠ b → w'.heap[j]? = w.heap[j]?) ∧ w'.os = w.os ∧ w'.tape = w.tape ∧ w'.output = w.output) := by
    intro es' clock' T' h1 h2
    refine ⟨_, rfl, ⟨es', clock', T', by simp [hlt], h1, fun s' => by rw [h2, gt_bump, hf]⟩, by simp, fun j hj => by simp [Ne.symm hj], rfl, rfl, rfl⟩
  rw [← hf]
  rcases find_es es.toList T s 0 hE with ⟨h1, h2, h3⟩ | ⟨i, h1, h2, h3⟩
  · have hfk := MapKept.run_findKey (P := P) (w := w) hk h3
    rw [h1]
    obtain ⟨w', rfl, r⟩ := key (es.push { key := .string (str s), val := .int .i64 1, born := clock }) (clock + 1) _ (by rw [Array.toList_push]; exact EsOf.push _ _ s clock hE) h2.symm
    refine ⟨_, ?_, r⟩
    simp [Instr.mapUpdate, run_underlying ht, MapKept.run_getObj_map hb, hck, hfk, MapKept.run_setObj_map _ hb, Result.andThen]
  · have hfk := MapKept.run_findKey (P := P) (w := w) hk h1
    rw [Nat.zero_add] at hfk
    have hky : (es[i]?).map (·.key) = some (.string (str s)) := by rw [← Array.getElem?_toList]; exact h2
    have hst := MapKept.run_keyThatStays (P := P) (w := w) (d := .string) (k := .string (str s)) (show MapKept.IsKey .string (.string (str s)) from trivial)
    obtain ⟨w', rfl, r⟩ := key (es.modify i fun e => { e with key := .string (str s), val := .int .i64 ((gt T s + 1 : Nat) : Int) }) clock _ (by rw [Array.toList_modify]; exact h3 _ rfl) rfl
    refine ⟨_, ?_, r⟩
    simp [Instr.mapUpdate, run_underlying ht, MapKept.run_getObj_map hb, hck, hfk, hky, hst, MapKept.run_setObj_map _ hb, Result.andThen]
end
end Go.Proofs.Ythdjkjnkjkakpaa
