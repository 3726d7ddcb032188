/- TB, TC, TD as one. -/
import Derived.Test.YtihmibggonffdaaGreatTA
import Derived.LaidEql
import Derived.Laws.StructEq
/- Keys of a number and an address. -/
namespace Go.Proofs.YtihmibggonffdaaGreat
open Go.RowKit

def keyV (k : Int) (a : Addr) : Value := .agg #[.int .i64 k, .pointer (some a)]
theorem part_int (k : Int) (a : Addr) (w : World) : (part 3 #[.int .i64 k, .pointer (some a)] 0).run Tryz.prog w = .ok (.int .i64 k) w := by
  have h : (isAgg 3).run Tryz.prog w = .ok false w := by kernel_rfl
  simp [part, h, Result.andThen]
theorem part_ptr (k : Int) (a : Addr) (w : World) : (part 95 #[.int .i64 k, .pointer (some a)] 1).run Tryz.prog w = .ok (.pointer (some a)) w := by
  have h : (isAgg 95).run Tryz.prog w = .ok false w := by kernel_rfl
  simp [part, h, Result.andThen]
theorem eq_ptr (d : Nat) (a a' : Addr) (w : World) (ha : ∃ c t, w.heap[a.block]? = some (.cells c t (0, 0))) (ha' : ∃ c t, w.heap[a'.block]? = some (.cells c t (0, 0))) :
    (Op.equalIn (d + 1) 95 (.pointer (some a)) (.pointer (some a'))).run Tryz.prog w = .ok (decide (a = a')) w := by
  obtain ⟨c, t, h⟩ := ha
  obtain ⟨c', t', h'⟩ := ha'
  have hu := Tryz.underlying95
  have hs : (sizeOf 40).run Tryz.prog w = .ok 4 w := by kernel_rfl
  by_cases hn : a = a'
  · subst hn
    simp [Op.equalIn, run_underlying hu, hs, run_sameAddr_same, Result.andThen]
  · simp [Op.equalIn, run_underlying hu, hs, run_sameAddr_other w hn h h', hn, Result.andThen]
theorem eq_key (k k' : Int) (a a' : Addr) (w : World) (ha : ∃ c t, w.heap[a.block]? = some (.cells c t (0, 0))) (ha' : ∃ c t, w.heap[a'.block]? = some (.cells c t (0, 0))) :
    (Op.equal 174 (keyV k a) (keyV k' a')).run Tryz.prog w = .ok (decide (k = k' ∧ a = a')) w := by
  have hp : Tryz.prog.stoodInHeld 174 = false := by kernel_rfl
  have ht : Tryz.prog.underlying 174 = some (.struct (Tryz.prog.fieldsOf 174)) := by kernel_rfl
  have e1 := run_equalIn_struct (P := Tryz.prog) w 9999 174 #[.int .i64 k, .pointer (some a)] #[.int .i64 k', .pointer (some a')] ht hp
  have e0 : Op.equal 174 (keyV k a) (keyV k' a') = Op.equalIn (9999 + 1) 174 (.agg #[.int .i64 k, .pointer (some a)]) (.agg #[.int .i64 k', .pointer (some a')]) := rfl
  rw [e0, e1]
  have hf : (Tryz.prog.fieldsOf 174).toList = [{ name := "f", type := 3, offset := 0, embedded := false, tag := "", pkgPath := "muffle/sectype", byteOffset := 0 }, { name := "e", type := 95, offset := 1, embedded := false, tag := "", pkgPath := "muffle/sectype", byteOffset := 8 }] := by kernel_rfl
  rw [hf]
  have n1 : ¬ ("f" = "_") := by decide
  have n2 : ¬ ("e" = "_") := by decide
  have hi := run_equalIn_int (P := Tryz.prog) w 9998 3 .i64 .i64 k k' Tryz.underlying3
  have hq : (Op.equalIn 9999 95 (.pointer (some a)) (.pointer (some a'))).run Tryz.prog w = .ok (decide (a = a')) w := eq_ptr 9998 a a' w ha ha'
  simp only [Op.eqFields, n1, n2, ne_eq, not_false_eq_true, if_true, Sem.run_bind, part_int, Result.andThen_ok, hi]
  by_cases hk : k = k'
  · subst hk
    have hb : ∀ b : Bool, (decide (a = a')) = b → (Op.equalIn 9999 95 (.pointer (some a)) (.pointer (some a'))).run Tryz.prog w = .ok b w := fun b hb => hb ▸ hq
    by_cases haa : a = a'
    · subst haa
      have := hb true (by simp)
      simp [part_ptr, Result.andThen, this]
    · have := hb false (by simp [haa])
      simp [part_ptr, Result.andThen, this, haa]
  · simp [hk]
/- The map of what was looked at: its keys are numbers and addresses. -/
open Go.RowKit Go.ChangeMaps

def Pln (w : World) (b : Nat) : Prop := ∃ c t, w.heap[b]? = some (.cells c t (0, 0))
theorem check_part (e : Bool) (k : Int) (a : Addr) (w : World) : (Instr.checkKey e 10000 174 (keyV k a)).run Tryz.prog w = .ok () w := by
  have ht : Tryz.prog.underlying 174 = some (.struct (Tryz.prog.fieldsOf 174)) := by kernel_rfl
  have hf : (Tryz.prog.fieldsOf 174).toList = [{ name := "f", type := 3, offset := 0, embedded := false, tag := "", pkgPath := "muffle/sectype", byteOffset := 0 }, { name := "e", type := 95, offset := 1, embedded := false, tag := "", pkgPath := "muffle/sectype", byteOffset := 8 }] := by kernel_rfl
  have n1 : ¬ ("f" = "_") := by decide
  have n2 : ¬ ("e" = "_") := by decide
  have hi : ∀ n, (Instr.checkKey e (n + 1) 3 (.int .i64 k)).run Tryz.prog w = .ok () w := fun n => by
    simp [Instr.checkKey, run_underlying Tryz.underlying3, Result.andThen]
  have hp : ∀ n, (Instr.checkKey e (n + 1) 95 (.pointer (some a))).run Tryz.prog w = .ok () w := fun n => by
    simp [Instr.checkKey, run_underlying Tryz.underlying95, Result.andThen]
  have e0 : Instr.checkKey e 10000 174 (keyV k a) = Instr.checkKey e (9998 + 1 + 1) 174 (.agg #[.int .i64 k, .pointer (some a)]) := rfl
  rw [e0]
  unfold Instr.checkKey
  simp only [Sem.run_bind, run_underlying ht, Result.andThen_ok]
  rw [← Array.forIn_toList, hf]
  simp only [List.forIn_cons, List.forIn_nil, n1, n2, ne_eq, not_false_eq_true, if_true, Sem.run_bind, part_int, part_ptr, Result.andThen_ok, hi, hp, Sem.run_pure]
def KeysOf (w : World) (es : List MapEntry) : Prop := ∀ x ∈ es, ∃ k a, x.key = keyV k a ∧ Pln w a.block
theorem keyV_inj {k k' : Int} {a a' : Addr} (h : keyV k a = keyV k' a') : k = k' ∧ a = a' := by
  simp only [keyV, Value.agg.injEq] at h
  have h1 := congrArg Array.toList h
  simp at h1
  exact h1
theorem find_asking (k : Int) (a : Addr) (w : World) (ha : Pln w a.block) : ∀ (es : List MapEntry) (i : Nat), KeysOf w es →
    ((Instr.findAsking 174 (keyV k a) es i).run Tryz.prog w = .ok none w ∧ ∀ x ∈ es, x.key ≠ keyV k a) ∨
    ∃ x ∈ es, x.key = keyV k a ∧ ∃ j, (Instr.findAsking 174 (keyV k a) es i).run Tryz.prog w = .ok (some (j, x.val)) w
  | [], i, _ => .inl ⟨by simp [Instr.findAsking], by simp⟩
  | e :: es, i, h => by
    obtain ⟨k', a', hk, hp⟩ := h e (.head _)
    have hq := eq_key k k' a a' w ha hp
    by_cases hc : k = k' ∧ a = a'
    · refine .inr ⟨e, .head _, by rw [hk, hc.1, hc.2], i, ?_⟩
      rw [decide_eq_true hc] at hq
      simp [Instr.findAsking, hk, hq, Result.andThen]
    · rw [decide_eq_false hc] at hq
      have hr : (Instr.findAsking 174 (keyV k a) (e :: es) i).run Tryz.prog w = (Instr.findAsking 174 (keyV k a) es (i + 1)).run Tryz.prog w := by
        simp [Instr.findAsking, hk, hq, Result.andThen]
      rw [hr]
      rcases find_asking k a w ha es (i + 1) (fun x hx => h x (.tail _ hx)) with ⟨h1, h2⟩ | ⟨x, hx, h1, h2⟩
      · refine .inl ⟨h1, fun x hx => ?_⟩
        cases hx with
        | head => rw [hk]; intro e; have := keyV_inj e; exact hc ⟨this.1.symm, this.2.symm⟩
        | tail _ hx => exact h2 x hx
      · exact .inr ⟨x, .tail _ hx, h1, h2⟩
theorem find_part (k : Int) (a : Addr) (w : World) (ha : Pln w a.block) (es : List MapEntry) (h : KeysOf w es) :
    ((Instr.findKey 174 (keyV k a) es).run Tryz.prog w = .ok none w ∧ ∀ x ∈ es, x.key ≠ keyV k a) ∨
    ∃ x ∈ es, x.key = keyV k a ∧ ∃ j, (Instr.findKey 174 (keyV k a) es).run Tryz.prog w = .ok (some (j, x.val)) w := by
  have hu := Tryz.underlying174
  cases es with
  | nil => exact .inl ⟨by simp [Instr.findKey, run_underlying hu, Instr.findNow, Result.andThen], by simp⟩
  | cons e r =>
    have hn : ∀ d, Instr.findNow (.struct d) (keyV k a) (e :: r) 0 = none := fun d => by
      obtain ⟨k', a', hk, _⟩ := h e (.head _)
      simp [Instr.findNow, Instr.sameNow]
    have hr : (Instr.findKey 174 (keyV k a) (e :: r)).run Tryz.prog w = (Instr.findAsking 174 (keyV k a) (e :: r)).run Tryz.prog w := by
      simp [Instr.findKey, run_underlying hu, hn, Result.andThen]
    rw [hr]
    exact find_asking k a w ha (e :: r) 0 h
theorem look_part {w : World} {cb : Nat} {es : Array MapEntry} {clock : Nat} (hb : w.heap[cb]? = some (.map es clock)) (h : KeysOf w es.toList) (k : Int) (a : Addr) (ha : Pln w a.block) :
    ((Instr.lookup 78 (.map (some cb)) (keyV k a) true).run Tryz.prog w = .ok (.tuple #[.agg #[.slice none 0 0, .slice none 0 0, .bool false, .bool false], .bool false]) w ∧ ∀ x ∈ es.toList, x.key ≠ keyV k a) ∨
    ∃ x ∈ es.toList, x.key = keyV k a ∧ (Instr.lookup 78 (.map (some cb)) (keyV k a) true).run Tryz.prog w = .ok (.tuple #[x.val, .bool true]) w := by
  have ht := Tryz.underlying78
  have hck := check_part es.isEmpty k a w
  rcases find_part k a w ha es.toList h with ⟨h1, h2⟩ | ⟨x, hx, h1, j, h2⟩
  · left
    refine ⟨?_, h2⟩
    simp [Instr.lookup, run_underlying ht, MapKept.run_getObj_map hb, hck, h1, Result.andThen]
  · right
    refine ⟨x, hx, h1, ?_⟩
    simp [Instr.lookup, run_underlying ht, MapKept.run_getObj_map hb, hck, h2, Result.andThen]
theorem key_one {es : List MapEntry} (hnd : (es.map (·.key)).Nodup) : ∀ {x y : MapEntry}, x ∈ es → y ∈ es → x.key = y.key → x = y := by
  induction es with
  | nil => intro x y hx; cases hx
  | cons e es ih =>
    intro x y hx hy hk
    rw [List.map_cons, List.nodup_cons] at hnd
    rcases List.mem_cons.1 hx with hx | hx
    · rcases List.mem_cons.1 hy with hy | hy
      · rw [hx, hy]
      · exact absurd (List.mem_map.2 ⟨y, hy, by rw [← hk, hx]⟩) hnd.1
    · rcases List.mem_cons.1 hy with hy | hy
      · exact absurd (List.mem_map.2 ⟨x, hx, by rw [hk, hy]⟩) hnd.1
      · exact ih hnd.2 hx hy hk
theorem look_yes {w : World} {cb : Nat} {es : Array MapEntry} {clock : Nat} (hb : w.heap[cb]? = some (.map es clock)) (h : KeysOf w es.toList) (hnd : (es.toList.map (·.key)).Nodup) (k : Int) (a : Addr) (ha : Pln w a.block) {y : MapEntry} (hy : y ∈ es.toList) (hk : y.key = keyV k a) :
    (Instr.lookup 78 (.map (some cb)) (keyV k a) true).run Tryz.prog w = .ok (.tuple #[y.val, .bool true]) w := by
  rcases look_part hb h k a ha with ⟨_, h2⟩ | ⟨x, hx, h1, h2⟩
  · exact absurd hk (h2 y hy)
  · rw [key_one hnd hy hx (hk.trans h1.symm)]; exact h2
theorem look_no {w : World} {cb : Nat} {es : Array MapEntry} {clock : Nat} (hb : w.heap[cb]? = some (.map es clock)) (h : KeysOf w es.toList) (k : Int) (a : Addr) (ha : Pln w a.block) (hn : ∀ y ∈ es.toList, y.key ≠ keyV k a) :
    (Instr.lookup 78 (.map (some cb)) (keyV k a) true).run Tryz.prog w = .ok (.tuple #[.agg #[.slice none 0 0, .slice none 0 0, .bool false, .bool false], .bool false]) w := by
  rcases look_part hb h k a ha with ⟨h1, _⟩ | ⟨x, hx, h1, _⟩
  · exact h1
  · exact absurd h1 (hn x hx)
theorem put_part {w : World} {cb : Nat} {es : Array MapEntry} {clock : Nat} (hb : w.heap[cb]? = some (.map es clock)) (h : KeysOf w es.toList) (k : Int) (a : Addr) (ha : Pln w a.block) (hn : ∀ x ∈ es.toList, x.key ≠ keyV k a) (v : Value) :
    (Instr.mapUpdate 78 (.map (some cb)) (keyV k a) v).run Tryz.prog w = .ok () { w with heap := w.heap.setIfInBounds cb (.map (es.push { key := keyV k a, val := v, born := clock }) (clock + 1)) } := by
  have ht := Tryz.underlying78
  have hck := check_part false k a w
  rcases find_part k a w ha es.toList h with ⟨h1, h2⟩ | ⟨x, hx, h1, j, h2⟩
  · simp [Instr.mapUpdate, run_underlying ht, MapKept.run_getObj_map hb, hck, h1, MapKept.run_setObj_map _ hb, Result.andThen]
  · exact absurd h1 (hn x hx)
/- What is looked at twice is what it was; the walker's state. -/
open Go.RowKit

theorem Sl.inj {N : Nat} {p : Option Addr} {n : Nat} {A B : Nat → Nat → Prop} (h : Sl N p n A) (k : Sl N p n B) : n = 0 ∨ ∃ b o, A b o ∧ B b o := by
  rcases h.2 with h0 | ⟨b, o, hp, _, ha⟩
  · exact .inl h0
  · rcases k.2 with h0 | ⟨b', o', hp', _, hb⟩
    · exact .inl h0
    · rw [hp] at hp'
      cases hp'
      exact .inr ⟨b, o, ha, hb⟩
mutual
theorem Ex.At.inj {w : World} {N : Nat} : ∀ (x y : Ex) (b o : Nat), Ex.At w N x b o → Ex.At w N y b o → x = y
  | .mk op n nm a, .mk op' n' nm' a', b, o, ⟨⟨h0, h1, h2, _⟩, ⟨p, c, h4, s4⟩⟩, ⟨⟨k0, k1, k2, _⟩, ⟨p', c', k4, t4⟩⟩ => by
    rw [h0] at k0; rw [h1] at k1; rw [h2] at k2; rw [h4] at k4
    simp only [Option.some.injEq, Value.int.injEq, true_and, Value.string.injEq, Value.slice.injEq] at k0 k1 k2 k4
    obtain ⟨rfl, hl, rfl⟩ := k4
    have e1 : n = n' := by omega
    have e2 := strInj k2
    have e3 : a = a' := by
      rw [← hl] at t4
      rcases Sl.inj s4 t4 with h | ⟨b, o, h, k⟩
      · cases a with
        | nil => cases a' with
          | nil => rfl
          | cons => rw [h] at hl; simp [Exs.len] at hl
        | cons => simp [Exs.len] at h
      · exact Exs.At.inj a a' b o hl h k
    rw [k0, e1, e2, e3]
theorem Exs.At.inj {w : World} {N : Nat} : ∀ (l m : Exs) (b o : Nat), l.len = m.len → Exs.At w N l b o → Exs.At w N m b o → l = m
  | .nil, .nil, _, _, _, _, _ => rfl
  | .nil, .cons _ _, _, _, h, _, _ => by simp [Exs.len] at h
  | .cons _ _, .nil, _, _, h, _, _ => by simp [Exs.len] at h
  | .cons x r, .cons y t, b, o, h, h1, h2 => by
    simp only [Exs.len, Nat.add_right_cancel_iff] at h
    rw [Ex.At.inj x y b o h1.1 h2.1, Exs.At.inj r t b (o + 4) h h1.2 h2.2]
end
def zc (w : World) : World := { w with heap := w.heap.map fun o => match o with | .cells c t (0, 0) => .cells c t (0, 0) | _ => .cells #[] 0 (0, 0) }
theorem zc_cell {w : World} {b o : Nat} {v : Value} (h : (zc w).cell? ⟨b, o, none⟩ = some v) : w.cell? ⟨b, o, none⟩ = some v ∧ Pln w b := by
  simp only [World.cell?, zc, Array.getElem?_map] at h
  cases hb : w.heap[b]? with
  | none => rw [hb] at h; cases h
  | some ob =>
    rw [hb] at h
    simp only [Option.map_some] at h
    split at h
    · rename_i hx
      split at hx
      · cases hx
        exact ⟨by simp [World.cell?, hb]; exact h, _, _, hb⟩
      · cases hx; simp at h
    · cases h
def LeW (w w' : World) : Prop := ∀ b o v, w.cell? ⟨b, o, none⟩ = some v → w'.cell? ⟨b, o, none⟩ = some v
theorem zc_le (w : World) : LeW (zc w) w := fun _ _ _ h => (zc_cell h).1
theorem Sl.leq {N M : Nat} {p : Option Addr} {n : Nat} {A B : Nat → Nat → Prop} (h : Sl N p n A) (hN : N ≤ M) (hAB : ∀ b o, A b o → B b o) : Sl M p n B := Sl.imp h hN fun b o _ => hAB b o
mutual
theorem Ex.At.leq {w w' : World} {N : Nat} (hw : LeW w w') : ∀ (x : Ex) (b o : Nat), Ex.At w N x b o → Ex.At w' N x b o
  | .mk _op _wd _nm a, _b, _o, ⟨⟨h0, h1, h2, h3⟩, ⟨p, c, h4, s4⟩⟩ => ⟨⟨hw _ _ _ h0, hw _ _ _ h1, hw _ _ _ h2, h3⟩, ⟨p, c, hw _ _ _ h4, s4.leq (Nat.le_refl _) fun b' o' ha => Exs.At.leq hw a b' o' ha⟩⟩
theorem Exs.At.leq {w w' : World} {N : Nat} (hw : LeW w w') : ∀ (l : Exs) (b o : Nat), Exs.At w N l b o → Exs.At w' N l b o
  | .nil, _, _, _ => trivial
  | .cons x r, b, o, h => ⟨Ex.At.leq hw x b o h.1, Exs.At.leq hw r b (o + 4) h.2⟩
end
theorem Ex.At.pln {w : World} {N : Nat} {x : Ex} {b o : Nat} (h : x.At (zc w) N b o) : Pln w b := by
  obtain ⟨op, wd, nm, a⟩ := x
  exact (zc_cell h.1.1).2
structure Fw (S : Nat → Prop) (w w' : World) : Prop where
  os : w'.os = w.os
  tape : w'.tape = w.tape
  output : w'.output = w.output
  size : w.heap.size ≤ w'.heap.size
  block : ∀ k, k < w.heap.size → ¬ S k → w'.heap[k]? = w.heap[k]?
theorem Fw.refl (S : Nat → Prop) (w : World) : Fw S w w := ⟨rfl, rfl, rfl, Nat.le_refl _, fun _ _ _ => rfl⟩
theorem Fw.trans {S : Nat → Prop} {a b c : World} (h : Fw S a b) (k : Fw S b c) : Fw S a c :=
  ⟨k.os.trans h.os, k.tape.trans h.tape, k.output.trans h.output, Nat.le_trans h.size k.size, fun i hi hn => (k.block i (Nat.lt_of_lt_of_le hi h.size) hn).trans (h.block i hi hn)⟩
theorem Fw.imp {S T : Nat → Prop} {a b : World} (h : Fw S a b) (hs : ∀ k, S k → T k) : Fw T a b := ⟨h.os, h.tape, h.output, h.size, fun k hk hn => h.block k hk fun e => hn (hs k e)⟩
theorem Fw.new {S T : Nat → Prop} {a b c : World} (h : Fw S a b) (k : Fw T b c) (hs : ∀ j, T j → S j ∨ a.heap.size ≤ j) : Fw S a c :=
  ⟨k.os.trans h.os, k.tape.trans h.tape, k.output.trans h.output, Nat.le_trans h.size k.size, fun i hi hn => (k.block i (Nat.lt_of_lt_of_le hi h.size) (fun e => by rcases hs i e with h1 | h1; exact hn h1; omega)).trans (h.block i hi hn)⟩
theorem Fw.of_below {S : Nat → Prop} {a b : World} (h : Below a.heap.size a b) : Fw S a b := ⟨h.os, h.tape, h.output, h.size, fun k hk _ => h.block k hk⟩
theorem Fw.of_but {g : Nat} {a b : World} (h : But g a b) : Fw (fun k => k = g) a b := ⟨h.os, h.tape, h.output, h.size, fun k hk hn => h.block k hk hn⟩
theorem Fw.below {S : Nat → Prop} {a b : World} {N : Nat} (h : Fw S a b) (hN : N ≤ a.heap.size) (hs : ∀ k, S k → N ≤ k) : Below N a b :=
  ⟨h.os, h.tape, h.output, h.size, fun k hk => h.block k (by omega) (fun e => by have := hs k e; omega)⟩
theorem Fw.drew {S : Nat → Prop} {a b : World} (h : Fw S a b) : Fw S a b.drew := ⟨h.os, h.tape, h.output, h.size, h.block⟩
theorem SRow.fw {S : Nat → Prop} {w w' : World} {M : Nat} {v : Value} {l : List (List UInt8)} (h : SRow w M v l) (hF : Fw S w w') (hs : ∀ k, S k → ∀ c, w.heap[k]? ≠ some (.cells c 9 (0, 0))) : SRow w' M v l := by
  refine ⟨h.1, ?_⟩
  rcases h.2 with hn | ⟨g, cap, cur, rfl, hb, hk, hr⟩
  · exact .inl hn
  · exact .inr ⟨g, cap, cur, rfl, hb, (hF.block g (lt_blk hk) (fun e => hs g e _ hk)).trans hk, hr⟩
def Ca (w : World) (N cb : Nat) (x : Prg) (w0 : World) : Prop := ∃ es clock, w.heap[cb]? = some (.map es clock) ∧ (es.toList.map (·.key)).Nodup ∧ ∀ y ∈ es.toList, ∃ (k : Nat) (fn : Fnc) (e : Ex) (b o : Nat) (p q : Option Addr) (c d : Nat),
  y.key = keyV (k : Int) ⟨b, o, none⟩ ∧ x.fns[k]? = some fn ∧ e.At w0 N b o ∧ b < N ∧ Pln w0 b ∧ y.val = .agg #[.slice p (e.bas x fn).words.length c, .slice q (e.bas x fn).places.length d, .bool (e.bas x fn).secret, .bool (e.bas x fn).refused] ∧
  SRow w 0 (.slice p (e.bas x fn).words.length c) (e.bas x fn).words ∧ SRow w 0 (.slice q (e.bas x fn).places.length d) (e.bas x fn).places
theorem Ca.fw {S : Nat → Prop} {w w' : World} {N cb : Nat} {x : Prg} {w0 : World} (h : Ca w N cb x w0) (hF : Fw S w w') (hc : ¬ S cb) (hs : ∀ k, S k → ∀ c, w.heap[k]? ≠ some (.cells c 9 (0, 0))) : Ca w' N cb x w0 := by
  obtain ⟨es, clock, hb, hnd, hE⟩ := h
  refine ⟨es, clock, (hF.block cb (lt_blk hb) hc).trans hb, hnd, fun y hy => ?_⟩
  obtain ⟨k, fn, e, b, o, p, q, c, d, h1, h2, h3, h4, h5, h6, h7, h8⟩ := hE y hy
  exact ⟨k, fn, e, b, o, p, q, c, d, h1, h2, h3, h4, h5, h6, h7.fw hF hs, h8.fw hF hs⟩
structure Ws (w : World) (N wb cb pb : Nat) (x : Prg) (s : PrgP) (w0 : World) (n : Nat) : Prop where
  wk : w.heap[wb]? = some (.cells #[.pointer (some ⟨pb, 0, none⟩), .int .i64 (n : Int), .map (some cb)] 80 (0, 0))
  ca : Ca w N cb x w0
  prg : PB w N x pb s.p s.q s.c s.d
  old : Below N w0 w
  z : x.Ok (zc w0) N s.p s.q
  lts : N ≤ wb ∧ N ≤ cb ∧ N ≤ w.heap.size ∧ N ≤ w0.heap.size
theorem Ws.cb_map {w : World} {N wb cb pb n : Nat} {x : Prg} {s : PrgP} {w0 : World} (h : Ws w N wb cb pb x s w0 n) : ∃ es clock, w.heap[cb]? = some (.map es clock) := by
  obtain ⟨es, clock, hb, _⟩ := h.ca
  exact ⟨es, clock, hb⟩
theorem Ws.fw {S : Nat → Prop} {w w' : World} {N wb cb pb n : Nat} {x : Prg} {s : PrgP} {w0 : World} (h : Ws w N wb cb pb x s w0 n) (hF : Fw S w w') (hN : ∀ k, S k → N ≤ k) (hs : ∀ k, S k → k ≠ wb ∧ k ≠ cb ∧ k ≠ pb ∧ ∀ c, w.heap[k]? ≠ some (.cells c 9 (0, 0))) : Ws w' N wb cb pb x s w0 n := by
  have hB := hF.below h.lts.2.2.1 hN
  exact ⟨(hF.block wb (lt_blk h.wk) (fun e => (hs _ e).1 rfl)).trans h.wk, h.ca.fw hF (fun e => (hs _ e).2.1 rfl) (fun k e => (hs k e).2.2.2), ⟨(hF.block pb (lt_blk h.prg.cs) (fun e => (hs _ e).2.2.1 rfl)).trans h.prg.cs, h.prg.ok.later hB (Nat.le_refl N)⟩, h.old.trans hB, h.z, h.lts.1, h.lts.2.1, Nat.le_trans h.lts.2.2.1 hF.size, h.lts.2.2.2⟩
theorem Ws.later {w w' : World} {N wb cb pb n : Nat} {x : Prg} {s : PrgP} {w0 : World} (h : Ws w N wb cb pb x s w0 n) (hB : Below w.heap.size w w') : Ws w' N wb cb pb x s w0 n :=
  h.fw (S := fun _ => False) (Fw.of_below hB) (fun _ e => e.elim) (fun _ e => e.elim)
end Go.Proofs.YtihmibggonffdaaGreat
