/- T4, T1, T2, T3, T5 as one. -/
import Derived.Test.YtihmibggonffdaaGreatDF
import Derived.Test.YtihmibggonffdaaGreatE5
import Derived.Maps.RangeRun
import Derived.Shelf.SlMaps.Clone
import Derived.Test.YtihmibggonffdaaGreatF1
import Derived.Test.YtihmibggonffdaaGreatD9
import Derived.Maps.AppendAt
import Derived.Deep.Upon
/- Plain: which levels a program's words have. -/
namespace Go.Proofs.YtihmibggonffdaaGreat
open Go.RowKit

structure Bas where
 (words places : List (List UInt8)) (secret refused : Bool)
def wi (l : List (List UInt8)) (s : List UInt8) : List (List UInt8) := if l.any (fun z => z == s) then l else l ++ [s]
def secB (x : Prg) (fn : Fnc) (nm : List UInt8) : Bool := (found x fn nm).1.secret
def mem (T : List (List UInt8)) (s : List UInt8) : Bool := T.any (fun z => z == s)
def plcB (x : Prg) (fn : Fnc) (op : Int) (nm : List UInt8) (b : Bas) : Bas :=
 if op = 2 then { b with places := wi b.places nm } else if op = 3 then { b with refused := b.refused || secB x fn nm } else b
mutual
def Ex.plc (x : Prg) (fn : Fnc) : Ex → Bas → Bas
 | .mk op _ nm a, b => a.plc x fn (plcB x fn op nm b)
def Exs.plc (x : Prg) (fn : Fnc) : Exs → Bas → Bas
 | .nil, b => b
 | .cons e r, b => r.plc x fn (e.plc x fn b)
end
def Exs.plc0 (x : Prg) (fn : Fnc) : Exs → Bas → Bas
 | .nil, b => b
 | .cons e _, b => e.plc x fn b
mutual
def Ex.wit (x : Prg) (fn : Fnc) : Ex → Bas → Bas
 | .mk op _ nm a, b => if op = 2 then { b with words := wi b.words nm } else if op = 3 then a.plc0 x fn { b with secret := b.secret || secB x fn nm } else a.wit x fn b
def Exs.wit (x : Prg) (fn : Fnc) : Exs → Bas → Bas
 | .nil, b => b
 | .cons e r, b => r.wit x fn (e.wit x fn b)
end
theorem Ex.plc_eq (x : Prg) (fn : Fnc) (e : Ex) (b : Bas) : e.plc x fn b = e.args.plc x fn (plcB x fn e.op e.name b) := by obtain ⟨op, wd, nm, a⟩ := e; rw [Ex.plc]; rfl
theorem Ex.wit_eq (x : Prg) (fn : Fnc) (e : Ex) (b : Bas) : e.wit x fn b = if e.op = 2 then { b with words := wi b.words e.name } else if e.op = 3 then e.args.plc0 x fn { b with secret := b.secret || secB x fn e.name } else e.args.wit x fn b := by obtain ⟨op, wd, nm, a⟩ := e; rw [Ex.wit]; rfl
def bas0 : Bas := ⟨[], [], false, false⟩
def Ex.bas (x : Prg) (fn : Fnc) (e : Ex) : Bas := e.wit x fn bas0
def Bas.lev (b : Bas) (T : List (List UInt8)) : Option Bool := if !b.refused && !b.places.any (mem T) then some (b.secret || b.words.any (mem T)) else none
def Ex.lev (x : Prg) (fn : Fnc) (e : Ex) (T : List (List UInt8)) : Option Bool := (e.bas x fn).lev T
def setT (T : List (List UInt8)) (s : List UInt8) (t : Bool) : List (List UInt8) := if t then s :: T else T.filter (fun z => !(z == s))
inductive Re where
 | ok (T : List (List UInt8)) (n : Nat)
 | no (e : Nat)
def Re.bind : Re → (List (List UInt8) → Nat → Re) → Re
 | .ok T n, k => k T n
 | .no e, _ => .no e
def iterL (body : List (List UInt8) → Nat → Re) : Nat → List (List UInt8) → Nat → Re
 | 0, _, _ => .no 0
 | k + 1, T, n => (body T n).bind fun T' n' => if T'.all (mem T) then .ok T n' else iterL body k (T ++ T') n'
inductive Rc where
 | ok (l : List Bool) (n : Nat)
 | no (e : Nat)
def argsT (x : Prg) (fn : Fnc) (T : List (List UInt8)) : Exs → List Vr → Bool
 | .nil, _ => true
 | .cons _ _, [] => false
 | .cons e r, v :: vs => (match e.lev x fn T with | none => false | some b => !b || v.secret) && argsT x fn T r vs
def setAll (T : List (List UInt8)) : List (List UInt8) → List Bool → List (List UInt8)
 | s :: r, t :: ts => setAll (setT T s t) r ts
 | _, _ => T
def pub (x : Prg) (fn : Fnc) (e : Ex) (T : List (List UInt8)) : Bool := match e.lev x fn T with | some b => !b | none => false
mutual
def St.go (x : Prg) (fn : Fnc) (cf : Nat → Nat → Rc) : St → List (List UInt8) → Nat → Re
 | .mk kd nm ns e a as' _ _ bd el, T, n =>
   if kd = 1 then (match e.lev x fn T with | none => .no 10 | some b => .ok (setT T nm b) n)
   else if kd = 2 then (if pub x fn a T then (match e.lev x fn T with | none => .no 10 | some b => if !b || secB x fn nm then .ok T n else .no 10) else .no 10)
   else if kd = 3 then (if pub x fn e T then (bd.go x fn cf T n).bind fun T1 n1 => (el.go x fn cf T n1).bind fun T2 n2 => .ok (T1 ++ T2) n2 else .no 10)
   else if kd = 4 then iterL (fun T n => if pub x fn e T then bd.go x fn cf T n else .no 10) 65538 T n
   else if kd = 5 then iterL (fun T n => bd.go x fn cf T n) 65538 T n
   else if kd = 6 then (match calleeOf x.fns nm 0 with
     | none => .no 0
     | some (k, g) => if argsT x fn T as' g.params then (match cf k n with | .no e => .no e | .ok l n' => .ok (setAll T ns l) n') else .no 10)
   else .ok T n
def Sts.go (x : Prg) (fn : Fnc) (cf : Nat → Nat → Rc) : Sts → List (List UInt8) → Nat → Re
 | .nil, T, n => .ok T n
 | .cons s r, T, n => if n < 65536 then (s.go x fn cf T (n + 1)).bind (r.go x fn cf) else .no 13
end
def parT (l : List Vr) : List (List UInt8) := l.foldl (fun T v => setT T v.name v.secret) []
def goF (x : Prg) : Nat → Nat → Nat → Rc
 | 0, _, _ => .no 0
 | k + 1, i, n => match x.fns[i]? with
   | none => .no 0
   | some fn => match fn.body.go x fn (goF x k) (parT fn.params) n with
     | .no e => .no e
     | .ok T n' => .ok (fn.rets.map (mem T)) n'
def chkP (x : Prg) : Rc := if mayR x ≠ 0 then .no (mayR x) else goF x x.fns.length (x.fns.length - 1) 0

theorem St.go_eq (x : Prg) (fn : Fnc) (cf : Nat → Nat → Rc) (y : St) (T : List (List UInt8)) (n : Nat) : y.go x fn cf T n =
   if y.kind = 1 then (match y.e.lev x fn T with | none => .no 10 | some b => .ok (setT T y.name b) n)
   else if y.kind = 2 then (if pub x fn y.a T then (match y.e.lev x fn T with | none => .no 10 | some b => if !b || secB x fn y.name then .ok T n else .no 10) else .no 10)
   else if y.kind = 3 then (if pub x fn y.e T then (y.body.go x fn cf T n).bind fun T1 n1 => (y.els.go x fn cf T n1).bind fun T2 n2 => .ok (T1 ++ T2) n2 else .no 10)
   else if y.kind = 4 then iterL (fun T n => if pub x fn y.e T then y.body.go x fn cf T n else .no 10) 65538 T n
   else if y.kind = 5 then iterL (fun T n => y.body.go x fn cf T n) 65538 T n
   else if y.kind = 6 then (match calleeOf x.fns y.name 0 with
     | none => .no 0
     | some (k, g) => if argsT x fn T y.args g.params then (match cf k n with | .no e => .no e | .ok l n' => .ok (setAll T y.names l) n') else .no 10)
   else .ok T n := by
 obtain ⟨kd, nm, ns, e, a, as', lo, hi, bd, el⟩ := y; rw [St.go]; rfl
def Re.Ge (r : Re) (n : Nat) : Prop := ∀ T n', r = .ok T n' → n ≤ n' ∧ n' ≤ 65536
theorem Re.Ge.bind {r : Re} {k : List (List UInt8) → Nat → Re} {n : Nat} (h : r.Ge n) (hk : ∀ T n', n ≤ n' → n' ≤ 65536 → (k T n').Ge n') : (r.bind k).Ge n := by
 intro T n' e
 cases r with
 | no e' => cases e
 | ok T1 n1 =>
   have h1 := h T1 n1 rfl
   have h2 := hk T1 n1 h1.1 h1.2 T n' e
   exact ⟨Nat.le_trans h1.1 h2.1, h2.2⟩
theorem iterL_ge {body : List (List UInt8) → Nat → Re} (hb : ∀ T n, n ≤ 65536 → (body T n).Ge n) : ∀ (k : Nat) (T : List (List UInt8)) (n : Nat), n ≤ 65536 → (iterL body k T n).Ge n
 | 0, _, _, _ => fun _ _ e => by cases e
 | k + 1, T, n, hn => by
   rw [iterL]
   refine (hb T n hn).bind fun T' n' h1 h2 => ?_
   split
   · intro _ _ e; cases e; exact ⟨Nat.le_refl _, h2⟩
   · exact iterL_ge hb k _ n' h2
def CfGe (cf : Nat → Nat → Rc) : Prop := ∀ k n l n', n ≤ 65536 → cf k n = .ok l n' → n ≤ n' ∧ n' ≤ 65536
mutual
theorem St.go_ge (x : Prg) (fn : Fnc) (cf : Nat → Nat → Rc) (hc : CfGe cf) : ∀ (y : St) (T : List (List UInt8)) (n : Nat), n ≤ 65536 → (y.go x fn cf T n).Ge n
 | .mk kd nm ns e a as' lo hi bd el, T, n, hn => by
   have okge : ∀ T', (Re.ok T' n).Ge n := fun T' _ _ e => by cases e; exact ⟨Nat.le_refl _, hn⟩
   have noge : ∀ e', (Re.no e').Ge n := fun _ _ _ e => by cases e
   rw [St.go]
   split
   · split; exact noge _; exact okge _
   split
   · split
     · split
       · exact noge _
       · split; exact okge _; exact noge _
     · exact noge _
   split
   · split
     · refine (Sts.go_ge x fn cf hc bd T n hn).bind fun T1 n1 h1 h2 => (Sts.go_ge x fn cf hc el T n1 h2).bind fun T2 n2 h3 h4 => ?_
       intro _ _ e; cases e; exact ⟨Nat.le_refl _, h4⟩
     · exact noge _
   split
   · refine iterL_ge (fun T n hn => ?_) _ T n hn
     split
     · exact Sts.go_ge x fn cf hc bd T n hn
     · intro _ _ e; cases e
   split
   · exact iterL_ge (fun T n hn => Sts.go_ge x fn cf hc bd T n hn) _ T n hn
   split
   · split
     · exact noge _
     · split
       · split
         · exact noge _
         · rename_i h; intro _ _ e; cases e; exact hc _ _ _ _ hn h
       · exact noge _
   · exact okge _
theorem Sts.go_ge (x : Prg) (fn : Fnc) (cf : Nat → Nat → Rc) (hc : CfGe cf) : ∀ (l : Sts) (T : List (List UInt8)) (n : Nat), n ≤ 65536 → (l.go x fn cf T n).Ge n
 | .nil, T, n, hn => by rw [Sts.go]; intro _ _ e; cases e; exact ⟨Nat.le_refl _, hn⟩
 | .cons s r, T, n, hn => by
   rw [Sts.go]
   split
   · rename_i h
     have h1 := (St.go_ge x fn cf hc s T (n + 1) h).bind (k := r.go x fn cf) fun T' n' _ h2 => Sts.go_ge x fn cf hc r T' n' h2
     intro T' n' e
     have := h1 T' n' e
     omega
   · intro _ _ e; cases e
end
theorem goF_ge (x : Prg) : ∀ k, CfGe (goF x k)
 | 0 => fun _ _ _ _ _ e => by cases e
 | k + 1 => fun i n l n' hn e => by
   rw [goF] at e
   split at e
   · cases e
   · split at e
     · cases e
     · rename_i h; cases e; exact Sts.go_ge x _ _ (goF_ge x k) _ _ n hn _ _ h
/- A set of texts that a call makes: a map from texts to nothing. -/
open Go.RowKit Go.ChangeMaps

def Es (es : List MapEntry) : Prop := ∀ x ∈ es, ∃ s, x.key = .string (str s) ∧ x.val = .agg #[]
def InE (es : List MapEntry) (s : List UInt8) : Prop := ∃ x ∈ es, x.key = .string (str s)
def Mp (w : World) (b : Nat) (f : List UInt8 → Bool) : Prop := ∃ es clock, w.heap[b]? = some (.map es clock) ∧ MapKept.Stamped es clock ∧ Es es.toList ∧ ∀ s, f s = true ↔ InE es.toList s
theorem Mp.of_block {w w' : World} {b : Nat} {f : List UInt8 → Bool} (h : Mp w b f) (e : w'.heap[b]? = w.heap[b]?) : Mp w' b f := by
 obtain ⟨es, clock, h1, h2⟩ := h
 exact ⟨es, clock, e.trans h1, h2⟩
theorem Mp.lt {w : World} {b : Nat} {f : List UInt8 → Bool} (h : Mp w b f) : b < w.heap.size := by
 obtain ⟨es, clock, h1, h2⟩ := h
 exact lt_blk h1
theorem Mp.later {w w' : World} {b : Nat} {f : List UInt8 → Bool} (h : Mp w b f) (hB : Below w.heap.size w w') : Mp w' b f := h.of_block (hB.block b h.lt)
theorem Mp.but {w w' : World} {b g : Nat} {f : List UInt8 → Bool} (h : Mp w b f) (hB : But g w w') (hg : b ≠ g) : Mp w' b f := h.of_block (hB.block b h.lt hg)
theorem Mp.new (w : World) : Mp (w.alloc (.map #[] 0)) w.heap.size fun _ => false := ⟨#[], 0, heap_alloc_new _ _, MapKept.stamped_empty 0, (fun x hx => by simp at hx), fun s => ⟨fun h => (by cases h), fun h => (by obtain ⟨x, hx, _⟩ := h; simp at hx)⟩⟩
theorem Mp.copy {w : World} {b : Nat} {f : List UInt8 → Bool} (h : Mp w b f) : ∃ es clock, w.heap[b]? = some (.map es clock) ∧ Mp (w.alloc (.map es clock)) w.heap.size f := by
 obtain ⟨es, clock, h1, h2⟩ := h
 exact ⟨es, clock, h1, es, clock, heap_alloc_new _ _, h2⟩
theorem strInj {a b : List UInt8} (h : str a = str b) : a = b := by rw [← str_data a, ← str_data b, h]
theorem Es.key {es : List MapEntry} (h : Es es) : ∀ x ∈ es, MapKept.IsKey .string x.key := fun x hx => by
 obtain ⟨s, hs, _⟩ := h x hx
 rw [hs]; trivial
def withT (f : List UInt8 → Bool) (s : List UInt8) (t : Bool) : List UInt8 → Bool := fun x => if x = s then t else f x
theorem but_set {w : World} {b : Nat} {o o' : Obj} (_hb : w.heap[b]? = some o) : But b w { w with heap := w.heap.setIfInBounds b o' } :=
 ⟨rfl, rfl, rfl, by simp, fun k _ hk => by simp [Ne.symm hk]⟩
section
variable {P : Program} {t k e : TypeId}
theorem Mp.look {w : World} {b : Nat} {f : List UInt8 → Bool} (h : Mp w b f) (ht : P.underlying t = some (.map k e)) (hk : P.underlying k = some .string) (hz : ∀ w, (zeroValue e).run P w = .ok (.agg #[]) w) (s : List UInt8) :
   (Instr.lookup t (.map (some b)) (.string (str s)) true).run P w = .ok (.tuple #[.agg #[], .bool (f s)]) w := by
 obtain ⟨es, clock, hb, hS, hE, hf⟩ := h
 have hck := MapKept.run_checkKey hk (k := .string (str s)) (w := w) (show MapKept.IsKey .string (.string (str s)) from trivial)
 rcases MapKept.findNow_spec (d := .string) (k := .string (str s)) trivial es.toList 0 hE.key with ⟨h1, h2⟩ | ⟨j, x, h1, h2, h3⟩
 · have hfk := MapKept.run_findKey (P := P) (w := w) hk h1
   have h0 : f s = false := by
     cases hs : f s with
     | false => rfl
     | true => obtain ⟨x, hx, hkx⟩ := (hf s).1 hs; exact absurd hkx (h2 x hx)
   simp [Instr.lookup, run_underlying ht, MapKept.run_getObj_map hb, hck, hfk, hz, Result.andThen, h0]
 · have hfk := MapKept.run_findKey (P := P) (w := w) hk h1
   have hx := List.mem_of_getElem? h2
   have h0 : f s = true := (hf s).2 ⟨x, hx, h3⟩
   obtain ⟨_, _, hv⟩ := hE x hx
   simp [Instr.lookup, run_underlying ht, MapKept.run_getObj_map hb, hck, hfk, Result.andThen, h0, hv]
theorem Mp.put {w : World} {b : Nat} {f : List UInt8 → Bool} (h : Mp w b f) (ht : P.underlying t = some (.map k e)) (hk : P.underlying k = some .string) (s : List UInt8) :
   ∃ w', (Instr.mapUpdate t (.map (some b)) (.string (str s)) (.agg #[])).run P w = .ok () w' ∧ Mp w' b (withT f s true) ∧ But b w w' := by
 obtain ⟨es, clock, hb, hS, hE, hf⟩ := h
 have hck := MapKept.run_checkKey hk (k := .string (str s)) (w := w) (show MapKept.IsKey .string (.string (str s)) from trivial)
 have hlt := lt_blk hb
 rcases MapKept.findNow_spec (d := .string) (k := .string (str s)) trivial es.toList 0 hE.key with ⟨h1, h2⟩ | ⟨j, x, h1, h2, h3⟩
 · have hfk := MapKept.run_findKey (P := P) (w := w) hk h1
   refine ⟨_, by simp [Instr.mapUpdate, run_underlying ht, MapKept.run_getObj_map hb, hck, hfk, MapKept.run_setObj_map _ hb, Result.andThen]; rfl, ⟨_, _, by simp [hlt]; rfl, MapKept.stamped_push hS h2, ?_, fun s' => ?_⟩, but_set hb⟩
   · intro y hy
     rw [Array.toList_push, List.mem_append, List.mem_singleton] at hy
     rcases hy with hy | rfl
     · exact hE y hy
     · exact ⟨s, rfl, rfl⟩
   · unfold withT InE
     rw [Array.toList_push]
     by_cases hs : s' = s
     · subst hs; simp
     · rw [if_neg hs, hf s']
       unfold InE
       constructor
       · rintro ⟨y, hy, hk⟩; exact ⟨y, by simp [hy], hk⟩
       · rintro ⟨y, hy, hk⟩
         rw [List.mem_append, List.mem_singleton] at hy
         rcases hy with hy | rfl
         · exact ⟨y, hy, hk⟩
         · simp at hk; exact absurd (strInj hk).symm hs
 · have hfk := MapKept.run_findKey (P := P) (w := w) hk h1
   rw [Nat.zero_add] at hfk
   have hj : es[j]? = some x := by simpa using h2
   have hst := MapKept.run_keyThatStays (P := P) (w := w) (d := .string) (k := .string (str s)) (show MapKept.IsKey .string (.string (str s)) from trivial)
   have hx := List.mem_of_getElem? h2
   obtain ⟨_, _, hv⟩ := hE x hx
   have hsame : (es.modify j fun e => { e with key := .string (str s), val := .agg #[] }) = es := by
     apply Array.ext_getElem?
     intro i
     rw [Array.getElem?_modify]
     split
     · rename_i hij; subst hij
       rw [hj]; simp only [Option.map_some]; rw [← h3, ← hv]
     · rfl
   refine ⟨_, by simp [Instr.mapUpdate, run_underlying ht, MapKept.run_getObj_map hb, hck, hfk, hj, h3, hst, MapKept.run_setObj_map _ hb, Result.andThen]; rfl, ⟨es, clock, by simp [hlt, hsame], hS, hE, fun s' => ?_⟩, but_set hb⟩
   unfold withT
   by_cases hs : s' = s
   · subst hs; simp only [if_pos, true_iff]; exact ⟨x, hx, h3⟩
   · rw [if_neg hs]; exact hf s'
theorem Mp.del {w : World} {b : Nat} {f : List UInt8 → Bool} (h : Mp w b f) (ht : P.underlying t = some (.map k e)) (hk : P.underlying k = some .string) (s : List UInt8) :
   ∃ w', (∀ ty, (Builtin.delete_ #[t, k] ty #[.map (some b), .string (str s)]).run P w = .ok (.tuple #[]) w') ∧ Mp w' b (withT f s false) ∧ But b w w' := by
 obtain ⟨es, clock, hb, hS, hE, hf⟩ := h
 have hck := MapKept.run_checkKey hk (k := .string (str s)) (w := w) (show MapKept.IsKey .string (.string (str s)) from trivial)
 have hlt := lt_blk hb
 rcases MapKept.findNow_spec (d := .string) (k := .string (str s)) trivial es.toList 0 hE.key with ⟨h1, h2⟩ | ⟨j, x, h1, h2, h3⟩
 · have hfk := MapKept.run_findKey (P := P) (w := w) hk h1
   refine ⟨_, fun ty => by simp [Builtin.delete_, run_underlying ht, MapKept.run_getObj_map hb, hck, hfk, MapKept.run_setObj_map _ hb, Result.andThen]; rfl, ⟨es, clock, by simp [hlt], hS, hE, fun s' => ?_⟩, but_set hb⟩
   unfold withT
   by_cases hs : s' = s
   · subst hs; simp only [if_pos, Bool.false_eq_true, false_iff]; rintro ⟨y, hy, hk⟩; exact h2 y hy hk
   · rw [if_neg hs]; exact hf s'
 · have hfk := MapKept.run_findKey (P := P) (w := w) hk h1
   rw [Nat.zero_add] at hfk
   have hj : es[j]? = some x := by simpa using h2
   have hjl : j < es.size := (Array.getElem?_eq_some_iff.1 hj).1
   refine ⟨_, fun ty => by simp [Builtin.delete_, run_underlying ht, MapKept.run_getObj_map hb, hck, hfk, MapKept.run_setObj_map _ hb, Result.andThen]; rfl, ⟨es.eraseIdxIfInBounds j, clock, by simp [hlt], MapKept.stamped_erase hS j, ?_, fun s' => ?_⟩, but_set hb⟩
   · intro y hy
     rw [Array.eraseIdxIfInBounds, dif_pos hjl, Array.toList_eraseIdx] at hy
     exact hE y (List.mem_of_mem_eraseIdx hy)
   · have hnd := hS.2.2
     have hjk : (es.toList.map (·.key))[j]? = some (.string (str s)) := by rw [List.getElem?_map, h2]; simp [h3]
     unfold withT InE
     rw [Array.eraseIdxIfInBounds, dif_pos hjl, Array.toList_eraseIdx]
     by_cases hs : s' = s
     · subst hs
       simp only [if_pos, Bool.false_eq_true, false_iff]
       rintro ⟨y, hy, hky⟩
       rw [List.mem_eraseIdx_iff_getElem?] at hy
       obtain ⟨i, hij, hi⟩ := hy
       have hik : (es.toList.map (·.key))[i]? = some (.string (str s')) := by rw [List.getElem?_map, hi]; simp [hky]
       have := (List.getElem?_inj (i := i) (j := j) (by rw [List.length_map]; exact (List.getElem?_eq_some_iff.1 hi).1) hnd).1 (hik.trans hjk.symm)
       exact hij this
     · rw [if_neg hs, hf s']
       constructor
       · rintro ⟨y, hy, hky⟩
         refine ⟨y, ?_, hky⟩
         rw [List.mem_eraseIdx_iff_getElem?]
         obtain ⟨i, hi⟩ := List.mem_iff_getElem?.1 hy
         refine ⟨i, fun e => ?_, hi⟩
         subst e
         rw [h2] at hi; cases hi
         rw [h3] at hky; simp at hky; exact hs (strInj hky).symm
       · rintro ⟨y, hy, hky⟩
         exact ⟨y, List.mem_of_mem_eraseIdx hy, hky⟩
end
/- Levels: asked, set, copied. -/
open Go.RowKit Go.ChangeMaps

theorem zeroUnit (w : World) : (zeroValue 129).run Tryz.prog w = .ok (.agg #[]) w := by kernel_rfl
set_option maxHeartbeats 800000 in
theorem lvSecret_any (f : List UInt8 → Bool) (s : List UInt8) (b : Nat) (w : World) (h : Mp w b f) :
   Calls Tryz.prog 60 #[.map (some b), .string (str s)] w fun z w' => z = .returned (.bool (f s)) ∧ Below w.heap.size w w' := by
 have hlk := h.look Tryz.underlying97 Tryz.underlying9 zeroUnit s
 clear h
 generalize f s = r at hlk ⊢
 go_enter Tryz.func60, Tryz.ntmps60
 go_wp2_with fail
 go_ret
 exact ⟨rfl, (Below.refl _ _).alloc (Nat.le_refl _) _⟩
set_option maxHeartbeats 800000 in
theorem lvSet_yes (f : List UInt8 → Bool) (s : List UInt8) (b : Nat) (w : World) (h : Mp w b f) :
   Calls Tryz.prog 39 #[.map (some b), .string (str s), .bool true] w fun z w' => z = .returned (.tuple #[]) ∧ Mp w' b (withT f s true) ∧ But b w w' := by
 obtain ⟨w2, hup, h2⟩ := h.put Tryz.underlying97 Tryz.underlying9 s
 have H2 := Lib.hid h2
 clear h2 h
 go_enter Tryz.func39, Tryz.ntmps39
 go_wp2_with fail
 go_end0
 exact ⟨rfl, H2.out⟩
set_option maxHeartbeats 800000 in
theorem lvSet_no (f : List UInt8 → Bool) (s : List UInt8) (b : Nat) (w : World) (h : Mp w b f) :
   Calls Tryz.prog 39 #[.map (some b), .string (str s), .bool false] w fun z w' => z = .returned (.tuple #[]) ∧ Mp w' b (withT f s false) ∧ But b w w' := by
 obtain ⟨w2, hup, h2⟩ := h.del Tryz.underlying97 Tryz.underlying9 s
 have H2 := Lib.hid h2
 clear h2 h
 go_enter Tryz.func39, Tryz.ntmps39
 go_wp2_with fail
 go_end0
 exact ⟨rfl, H2.out⟩
theorem lvSet_any (f : List UInt8 → Bool) (s : List UInt8) (t : Bool) (b : Nat) (w : World) (h : Mp w b f) :
   Calls Tryz.prog 39 #[.map (some b), .string (str s), .bool t] w fun z w' => z = .returned (.tuple #[]) ∧ Mp w' b (withT f s t) ∧ But b w w' := by
 cases t
 · exact lvSet_no f s b w h
 · exact lvSet_yes f s b w h
set_option maxHeartbeats 800000 in
theorem mclone_any (b : Nat) (es : Array MapEntry) (clock : Nat) (w : World) (hb : w.heap[b]? = some (.map es clock)) :
   Calls Tryz.prog 136 #[.map (some b)] w fun z w' => z = .returned (.map (some w.heap.size)) ∧ w' = w.alloc (.map es clock) := by
 have hq : ∀ w, (binOp .eql 97 (.map (some b)) (.map none)).run Tryz.prog w = .ok (.bool false) w := fun w => run_eql_map_nil_sl (P := Tryz.prog) w 97 _ _ (some b) Tryz.underlying97
 have hx : (callFunc 140 #[.iface 97 (.map (some b))]).run Tryz.prog w = .ok (.value (.iface 97 (.map (some w.heap.size)))) (w.alloc (.map es clock)) := by
   rw [run_callFunc_extern Tryz.func140 (by kernel_rfl) (by kernel_rfl) (by kernel_rfl) (e := Extern.MapsClone.clone) (by kernel_rfl), run_maps_clone_sl w 97 hb]; rfl
 have ha : ∀ w' : World, (Instr.typeAssert (.iface 97 (.map (some w.heap.size))) 20 97 false).run Tryz.prog w' = .ok (.map (some w.heap.size)) w' := fun w' => run_typeAssert_map_sl _ 97 20 _ _ _ Tryz.underlying97
 clear hb
 go_enter Tryz.func136, Tryz.ntmps136
 go_wp2_with fail
 go_ret
 exact ⟨rfl, rfl⟩
theorem lvCopied_any (f : List UInt8 → Bool) (b : Nat) (w : World) (h : Mp w b f) :
   Calls Tryz.prog 111 #[.map (some b)] w fun z w' => z = .returned (.map (some w.heap.size)) ∧ Mp w' w.heap.size f ∧ Below w.heap.size w w' := by
 obtain ⟨es, clock, hb, hc⟩ := h.copy
 have HC := Lib.hid (And.intro hc ((Below.refl w.heap.size w).alloc (Nat.le_refl _) (.map es clock)))
 clear hc h
 go_enter Tryz.func111, Tryz.ntmps111
 go_wp2_with fail
 refine (mclone_any b es clock w hb).mono ?_
 rintro e w2 ⟨rfl, rfl⟩
 go_wp2_with fail
 go_ret
 exact ⟨rfl, HC.out⟩
/- Levels joined: a range over a set that writes into another one. -/
open Go.RowKit Go.ChangeMaps

theorem setBlock_same {W : World} {r : Nat} (hr : r < W.heap.size) (o : Obj) : (setBlock W r o).heap[r]? = some o := by simp [setBlock, hr]
theorem setBlock_other {W : World} {r k : Nat} (hk : k ≠ r) (o : Obj) : (setBlock W r o).heap[k]? = W.heap[k]? := by simp only [setBlock]; exact Array.getElem?_setIfInBounds_ne (Ne.symm hk)
theorem setBlock_size {W : World} {r : Nat} (o : Obj) : (setBlock W r o).heap.size = W.heap.size := by simp [setBlock]
theorem But.setBlock {b : Nat} {w W : World} (h : But b w W) {r : Nat} (hr : w.heap.size ≤ r) (o : Obj) : But b w (setBlock W r o) :=
 ⟨h.os, h.tape, h.output, by rw [setBlock_size]; exact h.size, fun k hk hn => (setBlock_other (by omega) o).trans (h.block k hk hn)⟩
theorem But.alloc {b : Nat} {w W : World} (h : But b w W) (o : Obj) : But b w (W.alloc o) := h.trans (But.of_below ((Below.refl _ _).alloc (Nat.le_refl _) o))

structure RJ (w : World) (f : List UInt8 → Bool) (b m r : Nat) (es : Array MapEntry) (clock : Nat) (seen : Array Nat) (W : World) : Prop where
 it : W.heap[r]? = some (.mapIter (some m) clock seen clock)
 mp : W.heap[m]? = some (.map es clock)
 dst : ∃ fx, Mp W b fx ∧ ∀ s, fx s = true ↔ f s = true ∨ ∃ e ∈ es.toList, seen.contains e.born = true ∧ e.key = .string (str s)
 bw : But b w W

set_option maxRecDepth 100000 in
set_option maxHeartbeats 3200000 in
theorem mcopy_any (f g : List UInt8 → Bool) (b m : Nat) (w : World) (hd : Mp w b f) (hs : Mp w m g) (hbm : b ≠ m) :
   Calls Tryz.prog 137 #[.map (some b), .map (some m)] w fun z w' => z = .returned (.tuple #[]) ∧ Mp w' b (fun s => f s || g s) ∧ But b w w' := by
 have hml := hs.lt
 have hbl := hd.lt
 obtain ⟨es, clock, hm, hS, hE, hg⟩ := hs
 have hrg := run_range_map (P := Tryz.prog) w 97 9 129 m es clock Tryz.underlying97 hm
 have HR : Hid (RJ w f b m w.heap.size es clock #[] (w.alloc (.mapIter (some m) clock #[] clock))) := Lib.hid
   ⟨heap_alloc_new w _, (Below.heap_alloc _ _ _ hml).trans hm, ⟨f, hd.later ((Below.refl _ _).alloc (Nat.le_refl _) _), fun s => ⟨.inl, fun h => h.elim id fun ⟨_, _, h, _⟩ => by simp at h⟩⟩, (But.refl b w).alloc _⟩
 have HS := Lib.hid (And.intro hml (And.intro hbl hbm))
 have HST := Lib.hid hS
 have HEE := Lib.hid hE
 have HEnd := Lib.hid (fun (fx : List UInt8 → Bool) (h : ∀ s, fx s = true ↔ f s = true ∨ ∃ e ∈ es.toList, e.key = .string (str s)) => show fx = (fun s => f s || g s) from by
   funext s
   rw [Bool.eq_iff_iff, h s, Bool.or_eq_true, hg s]
   rfl)
 clear hm hd hml hbl hS hE hg hbm
 go_enter Tryz.func137, Tryz.ntmps137
 go_wp2_with fail
 generalize w.alloc (.mapIter (some m) clock #[] clock) = w3 at HR ⊢
 clear hrg
 obtain ⟨r, hr⟩ : ∃ r, r = w.heap.size := ⟨_, rfl⟩
 rw [← hr] at HR
 simp only [← hr]
 have HR0 := Lib.hid hr
 clear hr
 go_loopw [] (fun wr => ∃ seen, Hid (RJ w f b m r es clock seen wr)) (fun wr => (leftOf es (wr.iterSeen r)).size)
 case atStart => exact ⟨#[], HR⟩
 case round =>
   obtain ⟨seen, hI⟩ := hrel
   have hlr := lt_blk hI.out.it
   have law := run_next_at (P := Tryz.prog) wr 0 r m clock clock seen es clock hI.out.it hI.out.mp HST.out.1 (Nat.le_refl _)
   rcases law with ⟨h0, hrun⟩ | ⟨e, he, w4, hw4, hrun⟩
   · have hnx : ∀ ty, (Instr.next (.pointer (some ⟨r, 0, none⟩)) false ty).run Tryz.prog wr = _ := fun _ => hrun
     have HA := Lib.hid (all_seen es seen h0)
     clear hrun h0
     go_wp2_with fail
     go_end0
     obtain ⟨fx, h1, h2⟩ := hI.out.dst
     rw [HEnd.out fx (fun s => (h2 s).trans (or_congr_right ⟨fun ⟨e, he, _, hk⟩ => ⟨e, he, hk⟩, fun ⟨e, he, hk⟩ => ⟨e, he, HA.out e he, hk⟩⟩))] at h1
     exact ⟨rfl, h1, hI.out.bw⟩
   · have hmr : m ≠ r := by have := HS.out.1; have := HR0.out; omega
     have hbr : b ≠ r := by have := HS.out.2.1; have := HR0.out; omega
     have hwh : w4.heap = wr.heap := by rcases hw4 with rfl | rfl <;> rfl
     have hw4B : But b wr w4 := by
       rcases hw4 with rfl | rfl
       · exact But.refl _ _
       · exact (But.refl _ _).drew
     have hl4 : r < w4.heap.size := by rw [hwh]; exact hlr
     have hbw : But b w (setBlock w4 r (.mapIter (some m) clock (seen.push e.born) clock)) := (hI.out.bw.trans hw4B).setBlock (Nat.le_of_eq HR0.out.symm) _
     have hit := setBlock_same hl4 (.mapIter (some m) clock (seen.push e.born) clock)
     have hmp : (setBlock w4 r (.mapIter (some m) clock (seen.push e.born) clock)).heap[m]? = some (.map es clock) := (setBlock_other hmr _).trans (by rw [hwh]; exact hI.out.mp)
     obtain ⟨fx, hfx, hfs⟩ := hI.out.dst
     have hmx : Mp (setBlock w4 r (.mapIter (some m) clock (seen.push e.born) clock)) b fx := hfx.of_block ((setBlock_other hbr _).trans (by rw [hwh]))
     generalize hW5 : setBlock w4 r (.mapIter (some m) clock (seen.push e.born) clock) = W5 at hrun hbw hit hmp hmx
     have hel := (mem_left he).1
     obtain ⟨s0, hk, hv⟩ := HEE.out e hel
     have hen := run_entry_at (P := Tryz.prog) W5 r m clock seen es clock e hit hmp hel HST.out.2.1
     rw [hk, hv] at hrun hen
     have hnx : ∀ ty, (Instr.next (.pointer (some ⟨r, 0, none⟩)) false ty).run Tryz.prog wr = _ := fun _ => hrun
     have hl5 := lt_blk hit
     obtain ⟨w6, hup, h6, hb6⟩ := (hmx.later ((Below.refl _ _).alloc (Nat.le_refl _) (.cells #[] 129))).put (P := Tryz.prog) Tryz.underlying97 Tryz.underlying9 s0
     have HF := Lib.hid (show RJ w f b m r es clock (seen.push e.born) w6 from by
       have q : ∀ k, k < W5.heap.size → k ≠ b → w6.heap[k]? = W5.heap[k]? := fun k hk hn => (hb6.block k (by rw [show (W5.alloc (Obj.cells #[] 129)).heap.size = W5.heap.size + 1 by simp]; omega) hn).trans (Below.heap_alloc _ _ _ hk)
       refine ⟨(q r hl5 (Ne.symm hbr)).trans hit, (q m (lt_blk hmp) (Ne.symm HS.out.2.2)).trans hmp, ⟨_, h6, fun s => ?_⟩, (hbw.alloc _).trans hb6⟩
       unfold withT
       by_cases hs : s = s0
       · subst hs
         rw [if_pos rfl]
         exact ⟨fun _ => .inr ⟨e, hel, by rw [contains_push]; simp, hk⟩, fun _ => rfl⟩
       · rw [if_neg hs, hfs s]
         refine or_congr_right ⟨fun ⟨y, hy, hc, hky⟩ => ⟨y, hy, by rw [contains_push, hc]; rfl, hky⟩, fun ⟨y, hy, hc, hky⟩ => ⟨y, hy, ?_, hky⟩⟩
         rw [contains_push] at hc
         rcases Bool.or_eq_true _ _ ▸ hc with h1 | h1
         · exact h1
         · have : y = e := born_inj HST.out.2.1 hy hel (beq_iff_eq.1 h1)
           subst this
           rw [hk] at hky
           simp at hky
           exact absurd (strInj hky).symm hs)
     have HE := Lib.hid he
     clear hrun hit hmp hbw hW5 hl4 hw4B hwh hw4 hk hv he hmx hfx hfs h6 hb6 hel hl5 hlr
     go_wp2_with fail
     go_roundw
     case rel => exact ⟨seen.push e.born, HF⟩
     case measure =>
       have i1 : wr.iterSeen r = seen := by unfold World.iterSeen; rw [hI.out.it]
       have i2 : w6.iterSeen r = seen.push e.born := by unfold World.iterSeen; rw [HF.out.it]
       rw [i1, i2]
       exact left_shrinks es seen e HE.out
set_option maxHeartbeats 800000 in
theorem lvJoin_any (f g : List UInt8 → Bool) (b m : Nat) (w : World) (hd : Mp w b f) (hs : Mp w m g) (hbm : b ≠ m) :
   Calls Tryz.prog 112 #[.map (some b), .map (some m)] w fun z w' => z = .returned (.tuple #[]) ∧ Mp w' b (fun s => f s || g s) ∧ But b w w' := by
 go_enter Tryz.func112, Tryz.ntmps112
 go_wp2_with fail
 refine (mcopy_any f g b m w hd hs hbm).mono ?_
 rintro e w2 ⟨rfl, h2⟩
 have H2 := Lib.hid h2
 clear h2
 go_wp2_with fail
 go_end0
 exact ⟨rfl, H2.out⟩
/- Lists that have a name once; whether an array is secret. -/
open Go.RowKit

theorem strCells_app (l r : List (List UInt8)) : strCells (l ++ r) = strCells l ++ strCells r := by simp [strCells]
theorem add_at (g j : Nat) : (⟨g, 0, none⟩ : Addr).add j = ⟨g, 0 + j, none⟩ := by unfold Addr.add; split <;> simp_all
theorem ownStrs {w : World} {M : Nat} {t : TypeId} {v : Value} {l : List (List UInt8)} (h : w.ownsRow M t 1 v l.length (strCells l)) (hl : l.length ≤ 140737488355328) : ∃ p c, v = .slice p l.length c ∧ RowIn w.heap.size (StrAt w) 1 l p := by
 rcases h.2 with ⟨rfl, h0⟩ | ⟨g, cap, cur, rfl, hb, hg, _⟩
 · have : l = [] := by simpa [strCells] using h0
   subst this
   exact ⟨none, 0, rfl, Nat.zero_le _, .inl rfl⟩
 · refine ⟨_, _, rfl, hl, .inr ⟨g, 0, rfl, lt_blk hg, str_of l g 0 fun j u hj => ?_⟩⟩
   have h5 := h.cells (g := g) rfl j u hj
   rw [add_at] at h5
   exact h5
theorem infoS1 : ∃ i, Tryz.prog.info? 9 = some i ∧ i.zero = some (.string ⟨#[]⟩) ∧ i.size = 1 ∧ i.bytes = 16 := by
 have h := infoStr
 cases hi : Tryz.prog.info? 9 with
 | none => rw [hi] at h; cases h
 | some i =>
   rw [hi] at h
   simp only [Option.map_some, Option.some.injEq, Prod.mk.injEq] at h
   exact ⟨i, rfl, h.1, h.2.1, h.2.2⟩
def SRow (w : World) (M : Nat) (v : Value) (l : List (List UInt8)) : Prop := w.ownsRow M 9 1 v l.length (strCells l)
def OwnTo (w : World) (v v' : Value) : Prop := v'.ownBlock = v.ownBlock ∨ v'.ownBlock = some w.heap.size ∨ v'.ownBlock = some (w.heap.size + 1)
set_option maxHeartbeats 800000 in
theorem with_any (l : List (List UInt8)) (s : List UInt8) (M : Nat) (v : Value) (w : World) (hown : SRow w M v l) (hM : M ≤ w.heap.size) (hl : l.length ≤ 4000000) :
   Calls Tryz.prog 70 #[v, .string (str s)] w fun z w' => ∃ v', z = .returned v' ∧ SRow w' M v' (wi l s) ∧ w.grownBy w' v.ownBlock ∧ OwnTo w v v' := by
 obtain ⟨p, c, rfl, hr⟩ := ownStrs hown (by omega)
 have HC := Lib.hid (contains_any l s p c w.heap.size w hr)
 have HO := Lib.hid hown
 clear hr hown
 cases hb : l.any (fun y => y == s) with
 | true =>
   rw [hb] at HC
   have hw : wi l s = l := by rw [wi, if_pos hb]
   go_enter Tryz.func70, Tryz.ntmps70
   go_wp2_with fail
   refine HC.out.mono ?_
   rintro z w2 ⟨rfl, rfl⟩
   go_wp2_with fail
   go_ret
   exact ⟨_, rfl, by rw [hw]; exact HO.out, World.grownBy.refl _ _, .inl rfl⟩
 | false =>
   rw [hb] at HC
   have HW := Lib.hid (show wi l s = l ++ [s] from by rw [wi, if_neg (by rw [hb]; decide)])
   obtain ⟨i0, hi, hz0, hz1, hz2⟩ := infoS1
   have hzs : (Value.string ⟨#[]⟩).cells.size = 1 := rfl
   go_enter Tryz.func70, Tryz.ntmps70
   go_wp2_with fail
   refine HC.out.mono ?_
   rintro z w2 ⟨rfl, rfl⟩
   have HOa : Hid (SRow (w.alloc (.cells #[.string (str s)] 9)) M (.slice p l.length c) l) := Lib.hid (HO.out.kept (row := none) ⟨rfl, rfl, rfl, by simp, fun j hj _ => Below.heap_alloc _ _ j hj⟩ (Classical.em _))
   go_wp2_with (at_builtin; refine wpList_append_own_at _ rfl _ _ 42 rfl M 9 i0 (.string ⟨#[]⟩) 1 16 Tryz.underlying42 hi hz0 hz1 hz2 hzs (by decide) (.slice p l.length c) l.length (strCells l) rfl HOa.out ⟨w.heap.size, 0, none⟩ 1 1 [.string (str s)] rfl rfl (cell_one_new _ _ _) (by simp [Value.oneCell']) (by unfold maxLen; omega) (by omega) (by simp; omega) ?_; intro v2 w2 h2 h3 _ h5; clear hi hz0 hz1 hz2 hzs)
   go_ret
   refine ⟨v2, rfl, ?_, ?_, ?_⟩
   · rw [HW.out]
     unfold SRow
     rw [strCells_app, List.length_append]
     exact h2
   · exact World.grownBy.trans (show w.grownBy (w.alloc (.cells #[.string (str s)] 9)) (Value.slice p l.length c).ownBlock from ⟨rfl, rfl, rfl, by simp, fun j hj _ => Below.heap_alloc _ _ j hj⟩) h3
   · rcases h5 with h5 | h5
     · exact .inl h5
     · exact .inr (.inr (by rw [h5]; simp))
theorem PB.v {w : World} {N : Nat} {x : Prg} {pb : Nat} {s : PrgP} (h : PB w N x pb s.p s.q s.c s.d) : w.cell? ⟨pb, 0, none⟩ = some (.slice s.p x.regs.length s.c) ∧ w.cell? ⟨pb, 1, none⟩ = some (.slice s.q x.fns.length s.d) := ⟨cell_blk h.cs rfl, cell_blk h.cs rfl⟩
set_option maxHeartbeats 800000 in
theorem isSecret_any (x : Prg) (s : PrgP) (i : Nat) (fn : Fnc) (nm : List UInt8) (pb N : Nat) (w : World) (hP : PB w N x pb s.p s.q s.c s.d) (hN : N ≤ w.heap.size) (hi : x.fns[i]? = some fn) :
   Calls Tryz.prog 71 #[.pointer (some ⟨pb, 0, none⟩), .int .i64 (i : Int), .string (str nm)] w fun z w' => z = .returned (.bool (secB x fn nm)) ∧ Below w.heap.size w w' := by
 have HF := Lib.hid (find_any x s i fn nm N w hP.ok hN hi)
 have HS := Lib.hid (show secB x fn nm = (found x fn nm).1.secret from rfl)
 generalize secB x fn nm = sb at HS ⊢
 obtain ⟨p, q, c, d⟩ := s
 obtain ⟨c0, c1⟩ := hP.v
 clear hP hN hi
 unfold Prg.v foundV vrV at HF
 generalize found x fn nm = fo at HF HS
 obtain ⟨⟨fnm, fk, fz, fs⟩, fi, fr⟩ := fo
 dsimp only at HF HS
 go_enter Tryz.func71, Tryz.ntmps71
 go_wp2_with fail
 refine HF.out.mono ?_
 rintro z w2 ⟨rfl, hB⟩
 have HB := Lib.hid (hB.alloc hB.size (.cells #[.string (str fnm), .int .i64 fk, .int .i64 fz, .bool fs] 58))
 have k3 : (w2.alloc (.cells #[.string (str fnm), .int .i64 fk, .int .i64 fz, .bool fs] 58)).cell? ⟨w2.heap.size, 3, none⟩ = some (.bool fs) := by simp [go_sem]
 clear hB c0 c1
 go_wp2_with fail
 go_ret
 exact ⟨by rw [HS.out]; rfl, HB.out⟩
end Go.Proofs.YtihmibggonffdaaGreat
