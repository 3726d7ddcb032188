/- TC, TD, TE as one. -/
import Derived.Test.YtihmibggonffdaaGreatTB
import Derived.Test.YtihmibggonffdaaGreatF1
/- The map of what was looked at: its keys are numbers and addresses. -/
namespace Go.Proofs.YtihmibggonffdaaGreat
open Go.RowKit Go.ChangeMaps

def Pln (w : World) (b : Nat) : Prop := ∃ c t, w.heap[b]? = some (.cells c t (0, 0))
theorem check_part (e : Bool) (k : Int) (a : Addr) (w : World) : (Instr.checkKey e 10000 174 (keyV k a)).run Tryz.prog w = .ok () w := by
 have ht : Tryz.prog.underlying 174 = some (.struct (Tryz.prog.fieldsOf 174)) := by kernel_rfl
 have hf : (Tryz.prog.fieldsOf 174).toList = [{ name := "f", type := 3, offset := 0, embedded := false, tag := "", pkgPath := "muffle/sectype", byteOffset := 0 }, { name := "e", type := 95, offset := 1, embedded := false, tag := "", pkgPath := "muffle/sectype", byteOffset := 8 }] := by kernel_rfl
 have n1 : ¬ ("f" = "_") := by decide
 have n2 : ¬ ("e" = "_") := by decide
 have hi : ∀ n, (Instr.checkKey e (n + 1) 3 (.int .i64 k)).run Tryz.prog w = .ok () w := fun n => by
   simp [Instr.checkKey, run_underlying Tryz.underlying3, Result.andThen]
 have hp : ∀ n, (Instr.checkKey e (n + 1) 95 (.pointer (some a))).run Tryz.prog w = .ok () w := fun n => by
   simp [Instr.checkKey, run_underlying Tryz.underlying95, Result.andThen]
 have e0 : Instr.checkKey e 10000 174 (keyV k a) = Instr.checkKey e (9998 + 1 + 1) 174 (.agg #[.int .i64 k, .pointer (some a)]) := rfl
 rw [e0]
 unfold Instr.checkKey
 simp only [Sem.run_bind, run_underlying ht, Result.andThen_ok]
 rw [← Array.forIn_toList, hf]
 simp only [List.forIn_cons, List.forIn_nil, n1, n2, ne_eq, not_false_eq_true, if_true, Sem.run_bind, part_int, part_ptr, Result.andThen_ok, hi, hp, Sem.run_pure]
def KeysOf (w : World) (es : List MapEntry) : Prop := ∀ x ∈ es, ∃ k a, x.key = keyV k a ∧ Pln w a.block
theorem keyV_inj {k k' : Int} {a a' : Addr} (h : keyV k a = keyV k' a') : k = k' ∧ a = a' := by
 simp only [keyV, Value.agg.injEq] at h
 have h1 := congrArg Array.toList h
 simp at h1
 exact h1
theorem find_asking (k : Int) (a : Addr) (w : World) (ha : Pln w a.block) : ∀ (es : List MapEntry) (i : Nat), KeysOf w es →
   ((Instr.findAsking 174 (keyV k a) es i).run Tryz.prog w = .ok none w ∧ ∀ x ∈ es, x.key ≠ keyV k a) ∨
   ∃ x ∈ es, x.key = keyV k a ∧ ∃ j, (Instr.findAsking 174 (keyV k a) es i).run Tryz.prog w = .ok (some (j, x.val)) w
 | [], i, _ => .inl ⟨by simp [Instr.findAsking], by simp⟩
 | e :: es, i, h => by
   obtain ⟨k', a', hk, hp⟩ := h e (.head _)
   have hq := eq_key k k' a a' w ha hp
   by_cases hc : k = k' ∧ a = a'
   · refine .inr ⟨e, .head _, by rw [hk, hc.1, hc.2], i, ?_⟩
     rw [decide_eq_true hc] at hq
     simp [Instr.findAsking, hk, hq, Result.andThen]
   · rw [decide_eq_false hc] at hq
     have hr : (Instr.findAsking 174 (keyV k a) (e :: es) i).run Tryz.prog w = (Instr.findAsking 174 (keyV k a) es (i + 1)).run Tryz.prog w := by
       simp [Instr.findAsking, hk, hq, Result.andThen]
     rw [hr]
     rcases find_asking k a w ha es (i + 1) (fun x hx => h x (.tail _ hx)) with ⟨h1, h2⟩ | ⟨x, hx, h1, h2⟩
     · refine .inl ⟨h1, fun x hx => ?_⟩
       cases hx with
       | head => rw [hk]; intro e; have := keyV_inj e; exact hc ⟨this.1.symm, this.2.symm⟩
       | tail _ hx => exact h2 x hx
     · exact .inr ⟨x, .tail _ hx, h1, h2⟩
theorem find_part (k : Int) (a : Addr) (w : World) (ha : Pln w a.block) (es : List MapEntry) (h : KeysOf w es) :
   ((Instr.findKey 174 (keyV k a) es).run Tryz.prog w = .ok none w ∧ ∀ x ∈ es, x.key ≠ keyV k a) ∨
   ∃ x ∈ es, x.key = keyV k a ∧ ∃ j, (Instr.findKey 174 (keyV k a) es).run Tryz.prog w = .ok (some (j, x.val)) w := by
 have hu := Tryz.underlying174
 cases es with
 | nil => exact .inl ⟨by simp [Instr.findKey, run_underlying hu, Instr.findNow, Result.andThen], by simp⟩
 | cons e r =>
   have hn : ∀ d, Instr.findNow (.struct d) (keyV k a) (e :: r) 0 = none := fun d => by
     obtain ⟨k', a', hk, _⟩ := h e (.head _)
     simp [Instr.findNow, Instr.sameNow]
   have hr : (Instr.findKey 174 (keyV k a) (e :: r)).run Tryz.prog w = (Instr.findAsking 174 (keyV k a) (e :: r)).run Tryz.prog w := by
     simp [Instr.findKey, run_underlying hu, hn, Result.andThen]
   rw [hr]
   exact find_asking k a w ha (e :: r) 0 h
theorem look_part {w : World} {cb : Nat} {es : Array MapEntry} {clock : Nat} (hb : w.heap[cb]? = some (.map es clock)) (h : KeysOf w es.toList) (k : Int) (a : Addr) (ha : Pln w a.block) :
   ((Instr.lookup 78 (.map (some cb)) (keyV k a) true).run Tryz.prog w = .ok (.tuple #[.agg #[.slice none 0 0, .slice none 0 0, .bool false, .bool false], .bool false]) w ∧ ∀ x ∈ es.toList, x.key ≠ keyV k a) ∨
   ∃ x ∈ es.toList, x.key = keyV k a ∧ (Instr.lookup 78 (.map (some cb)) (keyV k a) true).run Tryz.prog w = .ok (.tuple #[x.val, .bool true]) w := by
 have ht := Tryz.underlying78
 have hck := check_part es.isEmpty k a w
 rcases find_part k a w ha es.toList h with ⟨h1, h2⟩ | ⟨x, hx, h1, j, h2⟩
 · left
   refine ⟨?_, h2⟩
   simp [Instr.lookup, run_underlying ht, MapKept.run_getObj_map hb, hck, h1, Result.andThen]
 · right
   refine ⟨x, hx, h1, ?_⟩
   simp [Instr.lookup, run_underlying ht, MapKept.run_getObj_map hb, hck, h2, Result.andThen]
theorem key_one {es : List MapEntry} (hnd : (es.map (·.key)).Nodup) : ∀ {x y : MapEntry}, x ∈ es → y ∈ es → x.key = y.key → x = y := by
 induction es with
 | nil => intro x y hx; cases hx
 | cons e es ih =>
   intro x y hx hy hk
   rw [List.map_cons, List.nodup_cons] at hnd
   rcases List.mem_cons.1 hx with hx | hx
   · rcases List.mem_cons.1 hy with hy | hy
     · rw [hx, hy]
     · exact absurd (List.mem_map.2 ⟨y, hy, by rw [← hk, hx]⟩) hnd.1
   · rcases List.mem_cons.1 hy with hy | hy
     · exact absurd (List.mem_map.2 ⟨x, hx, by rw [hk, hy]⟩) hnd.1
     · exact ih hnd.2 hx hy hk
theorem look_yes {w : World} {cb : Nat} {es : Array MapEntry} {clock : Nat} (hb : w.heap[cb]? = some (.map es clock)) (h : KeysOf w es.toList) (hnd : (es.toList.map (·.key)).Nodup) (k : Int) (a : Addr) (ha : Pln w a.block) {y : MapEntry} (hy : y ∈ es.toList) (hk : y.key = keyV k a) :
   (Instr.lookup 78 (.map (some cb)) (keyV k a) true).run Tryz.prog w = .ok (.tuple #[y.val, .bool true]) w := by
 rcases look_part hb h k a ha with ⟨_, h2⟩ | ⟨x, hx, h1, h2⟩
 · exact absurd hk (h2 y hy)
 · rw [key_one hnd hy hx (hk.trans h1.symm)]; exact h2
theorem look_no {w : World} {cb : Nat} {es : Array MapEntry} {clock : Nat} (hb : w.heap[cb]? = some (.map es clock)) (h : KeysOf w es.toList) (k : Int) (a : Addr) (ha : Pln w a.block) (hn : ∀ y ∈ es.toList, y.key ≠ keyV k a) :
   (Instr.lookup 78 (.map (some cb)) (keyV k a) true).run Tryz.prog w = .ok (.tuple #[.agg #[.slice none 0 0, .slice none 0 0, .bool false, .bool false], .bool false]) w := by
 rcases look_part hb h k a ha with ⟨h1, _⟩ | ⟨x, hx, h1, _⟩
 · exact h1
 · exact absurd h1 (hn x hx)
theorem put_part {w : World} {cb : Nat} {es : Array MapEntry} {clock : Nat} (hb : w.heap[cb]? = some (.map es clock)) (h : KeysOf w es.toList) (k : Int) (a : Addr) (ha : Pln w a.block) (hn : ∀ x ∈ es.toList, x.key ≠ keyV k a) (v : Value) :
   (Instr.mapUpdate 78 (.map (some cb)) (keyV k a) v).run Tryz.prog w = .ok () { w with heap := w.heap.setIfInBounds cb (.map (es.push { key := keyV k a, val := v, born := clock }) (clock + 1)) } := by
 have ht := Tryz.underlying78
 have hck := check_part false k a w
 rcases find_part k a w ha es.toList h with ⟨h1, h2⟩ | ⟨x, hx, h1, j, h2⟩
 · simp [Instr.mapUpdate, run_underlying ht, MapKept.run_getObj_map hb, hck, h1, MapKept.run_setObj_map _ hb, Result.andThen]
 · exact absurd h1 (hn x hx)
/- What is looked at twice is what it was; the walker's state. -/
open Go.RowKit

theorem Sl.inj {N : Nat} {p : Option Addr} {n : Nat} {A B : Nat → Nat → Prop} (h : Sl N p n A) (k : Sl N p n B) : n = 0 ∨ ∃ b o, A b o ∧ B b o := by
 rcases h.2 with h0 | ⟨b, o, hp, _, ha⟩
 · exact .inl h0
 · rcases k.2 with h0 | ⟨b', o', hp', _, hb⟩
   · exact .inl h0
   · rw [hp] at hp'
     cases hp'
     exact .inr ⟨b, o, ha, hb⟩
mutual
theorem Ex.At.inj {w : World} {N : Nat} : ∀ (x y : Ex) (b o : Nat), Ex.At w N x b o → Ex.At w N y b o → x = y
 | .mk op n nm a, .mk op' n' nm' a', b, o, ⟨⟨h0, h1, h2, _⟩, ⟨p, c, h4, s4⟩⟩, ⟨⟨k0, k1, k2, _⟩, ⟨p', c', k4, t4⟩⟩ => by
   rw [h0] at k0; rw [h1] at k1; rw [h2] at k2; rw [h4] at k4
   simp only [Option.some.injEq, Value.int.injEq, true_and, Value.string.injEq, Value.slice.injEq] at k0 k1 k2 k4
   obtain ⟨rfl, hl, rfl⟩ := k4
   have e1 : n = n' := by omega
   have e2 := strInj k2
   have e3 : a = a' := by
     rw [← hl] at t4
     rcases Sl.inj s4 t4 with h | ⟨b, o, h, k⟩
     · cases a with
       | nil => cases a' with
         | nil => rfl
         | cons => rw [h] at hl; simp [Exs.len] at hl
       | cons => simp [Exs.len] at h
     · exact Exs.At.inj a a' b o hl h k
   rw [k0, e1, e2, e3]
theorem Exs.At.inj {w : World} {N : Nat} : ∀ (l m : Exs) (b o : Nat), l.len = m.len → Exs.At w N l b o → Exs.At w N m b o → l = m
 | .nil, .nil, _, _, _, _, _ => rfl
 | .nil, .cons _ _, _, _, h, _, _ => by simp [Exs.len] at h
 | .cons _ _, .nil, _, _, h, _, _ => by simp [Exs.len] at h
 | .cons x r, .cons y t, b, o, h, h1, h2 => by
   simp only [Exs.len, Nat.add_right_cancel_iff] at h
   rw [Ex.At.inj x y b o h1.1 h2.1, Exs.At.inj r t b (o + 4) h h1.2 h2.2]
end
def zc (w : World) : World := { w with heap := w.heap.map fun o => match o with | .cells c t (0, 0) => .cells c t (0, 0) | _ => .cells #[] 0 (0, 0) }
theorem zc_cell {w : World} {b o : Nat} {v : Value} (h : (zc w).cell? ⟨b, o, none⟩ = some v) : w.cell? ⟨b, o, none⟩ = some v ∧ Pln w b := by
 simp only [World.cell?, zc, Array.getElem?_map] at h
 cases hb : w.heap[b]? with
 | none => rw [hb] at h; cases h
 | some ob =>
   rw [hb] at h
   simp only [Option.map_some] at h
   split at h
   · rename_i hx
     split at hx
     · cases hx
       exact ⟨by simp [World.cell?, hb]; exact h, _, _, hb⟩
     · cases hx; simp at h
   · cases h
def LeW (w w' : World) : Prop := ∀ b o v, w.cell? ⟨b, o, none⟩ = some v → w'.cell? ⟨b, o, none⟩ = some v
theorem zc_le (w : World) : LeW (zc w) w := fun _ _ _ h => (zc_cell h).1
theorem Sl.leq {N M : Nat} {p : Option Addr} {n : Nat} {A B : Nat → Nat → Prop} (h : Sl N p n A) (hN : N ≤ M) (hAB : ∀ b o, A b o → B b o) : Sl M p n B := Sl.imp h hN fun b o _ => hAB b o
mutual
theorem Ex.At.leq {w w' : World} {N : Nat} (hw : LeW w w') : ∀ (x : Ex) (b o : Nat), Ex.At w N x b o → Ex.At w' N x b o
 | .mk _op _wd _nm a, _b, _o, ⟨⟨h0, h1, h2, h3⟩, ⟨p, c, h4, s4⟩⟩ => ⟨⟨hw _ _ _ h0, hw _ _ _ h1, hw _ _ _ h2, h3⟩, ⟨p, c, hw _ _ _ h4, s4.leq (Nat.le_refl _) fun b' o' ha => Exs.At.leq hw a b' o' ha⟩⟩
theorem Exs.At.leq {w w' : World} {N : Nat} (hw : LeW w w') : ∀ (l : Exs) (b o : Nat), Exs.At w N l b o → Exs.At w' N l b o
 | .nil, _, _, _ => trivial
 | .cons x r, b, o, h => ⟨Ex.At.leq hw x b o h.1, Exs.At.leq hw r b (o + 4) h.2⟩
end
theorem Ex.At.pln {w : World} {N : Nat} {x : Ex} {b o : Nat} (h : x.At (zc w) N b o) : Pln w b := by
 obtain ⟨op, wd, nm, a⟩ := x
 exact (zc_cell h.1.1).2
structure Fw (S : Nat → Prop) (w w' : World) : Prop where
 os : w'.os = w.os
 tape : w'.tape = w.tape
 output : w'.output = w.output
 size : w.heap.size ≤ w'.heap.size
 block : ∀ k, k < w.heap.size → ¬ S k → w'.heap[k]? = w.heap[k]?
theorem Fw.refl (S : Nat → Prop) (w : World) : Fw S w w := ⟨rfl, rfl, rfl, Nat.le_refl _, fun _ _ _ => rfl⟩
theorem Fw.trans {S : Nat → Prop} {a b c : World} (h : Fw S a b) (k : Fw S b c) : Fw S a c :=
 ⟨k.os.trans h.os, k.tape.trans h.tape, k.output.trans h.output, Nat.le_trans h.size k.size, fun i hi hn => (k.block i (Nat.lt_of_lt_of_le hi h.size) hn).trans (h.block i hi hn)⟩
theorem Fw.imp {S T : Nat → Prop} {a b : World} (h : Fw S a b) (hs : ∀ k, S k → T k) : Fw T a b := ⟨h.os, h.tape, h.output, h.size, fun k hk hn => h.block k hk fun e => hn (hs k e)⟩
theorem Fw.new {S T : Nat → Prop} {a b c : World} (h : Fw S a b) (k : Fw T b c) (hs : ∀ j, T j → S j ∨ a.heap.size ≤ j) : Fw S a c :=
 ⟨k.os.trans h.os, k.tape.trans h.tape, k.output.trans h.output, Nat.le_trans h.size k.size, fun i hi hn => (k.block i (Nat.lt_of_lt_of_le hi h.size) (fun e => by rcases hs i e with h1 | h1; exact hn h1; omega)).trans (h.block i hi hn)⟩
theorem Fw.of_below {S : Nat → Prop} {a b : World} (h : Below a.heap.size a b) : Fw S a b := ⟨h.os, h.tape, h.output, h.size, fun k hk _ => h.block k hk⟩
theorem Fw.of_but {g : Nat} {a b : World} (h : But g a b) : Fw (fun k => k = g) a b := ⟨h.os, h.tape, h.output, h.size, fun k hk hn => h.block k hk hn⟩
theorem Fw.below {S : Nat → Prop} {a b : World} {N : Nat} (h : Fw S a b) (hN : N ≤ a.heap.size) (hs : ∀ k, S k → N ≤ k) : Below N a b :=
 ⟨h.os, h.tape, h.output, h.size, fun k hk => h.block k (by omega) (fun e => by have := hs k e; omega)⟩
theorem Fw.drew {S : Nat → Prop} {a b : World} (h : Fw S a b) : Fw S a b.drew := ⟨h.os, h.tape, h.output, h.size, h.block⟩
theorem SRow.fw {S : Nat → Prop} {w w' : World} {M : Nat} {v : Value} {l : List (List UInt8)} (h : SRow w M v l) (hF : Fw S w w') (hs : ∀ k, S k → ∀ c, w.heap[k]? ≠ some (.cells c 9 (0, 0))) : SRow w' M v l := by
 refine ⟨h.1, ?_⟩
 rcases h.2 with hn | ⟨g, cap, cur, rfl, hb, hk, hr⟩
 · exact .inl hn
 · exact .inr ⟨g, cap, cur, rfl, hb, (hF.block g (lt_blk hk) (fun e => hs g e _ hk)).trans hk, hr⟩
def Ca (w : World) (N cb : Nat) (x : Prg) (w0 : World) : Prop := ∃ es clock, w.heap[cb]? = some (.map es clock) ∧ (es.toList.map (·.key)).Nodup ∧ ∀ y ∈ es.toList, ∃ (k : Nat) (fn : Fnc) (e : Ex) (b o : Nat) (p q : Option Addr) (c d : Nat),
 y.key = keyV (k : Int) ⟨b, o, none⟩ ∧ x.fns[k]? = some fn ∧ e.At w0 N b o ∧ b < N ∧ Pln w0 b ∧ y.val = .agg #[.slice p (e.bas x fn).words.length c, .slice q (e.bas x fn).places.length d, .bool (e.bas x fn).secret, .bool (e.bas x fn).refused] ∧
 SRow w 0 (.slice p (e.bas x fn).words.length c) (e.bas x fn).words ∧ SRow w 0 (.slice q (e.bas x fn).places.length d) (e.bas x fn).places
theorem Ca.fw {S : Nat → Prop} {w w' : World} {N cb : Nat} {x : Prg} {w0 : World} (h : Ca w N cb x w0) (hF : Fw S w w') (hc : ¬ S cb) (hs : ∀ k, S k → ∀ c, w.heap[k]? ≠ some (.cells c 9 (0, 0))) : Ca w' N cb x w0 := by
 obtain ⟨es, clock, hb, hnd, hE⟩ := h
 refine ⟨es, clock, (hF.block cb (lt_blk hb) hc).trans hb, hnd, fun y hy => ?_⟩
 obtain ⟨k, fn, e, b, o, p, q, c, d, h1, h2, h3, h4, h5, h6, h7, h8⟩ := hE y hy
 exact ⟨k, fn, e, b, o, p, q, c, d, h1, h2, h3, h4, h5, h6, h7.fw hF hs, h8.fw hF hs⟩
structure Ws (w : World) (N wb cb pb : Nat) (x : Prg) (s : PrgP) (w0 : World) (n : Nat) : Prop where
 wk : w.heap[wb]? = some (.cells #[.pointer (some ⟨pb, 0, none⟩), .int .i64 (n : Int), .map (some cb)] 80 (0, 0))
 ca : Ca w N cb x w0
 prg : PB w N x pb s.p s.q s.c s.d
 old : Below N w0 w
 z : x.Ok (zc w0) N s.p s.q
 lts : N ≤ wb ∧ N ≤ cb ∧ N ≤ w.heap.size ∧ N ≤ w0.heap.size
theorem Ws.cb_map {w : World} {N wb cb pb n : Nat} {x : Prg} {s : PrgP} {w0 : World} (h : Ws w N wb cb pb x s w0 n) : ∃ es clock, w.heap[cb]? = some (.map es clock) := by
 obtain ⟨es, clock, hb, _⟩ := h.ca
 exact ⟨es, clock, hb⟩
theorem Ws.fw {S : Nat → Prop} {w w' : World} {N wb cb pb n : Nat} {x : Prg} {s : PrgP} {w0 : World} (h : Ws w N wb cb pb x s w0 n) (hF : Fw S w w') (hN : ∀ k, S k → N ≤ k) (hs : ∀ k, S k → k ≠ wb ∧ k ≠ cb ∧ k ≠ pb ∧ ∀ c, w.heap[k]? ≠ some (.cells c 9 (0, 0))) : Ws w' N wb cb pb x s w0 n := by
 have hB := hF.below h.lts.2.2.1 hN
 exact ⟨(hF.block wb (lt_blk h.wk) (fun e => (hs _ e).1 rfl)).trans h.wk, h.ca.fw hF (fun e => (hs _ e).2.1 rfl) (fun k e => (hs k e).2.2.2), ⟨(hF.block pb (lt_blk h.prg.cs) (fun e => (hs _ e).2.2.1 rfl)).trans h.prg.cs, h.prg.ok.later hB (Nat.le_refl N)⟩, h.old.trans hB, h.z, h.lts.1, h.lts.2.1, Nat.le_trans h.lts.2.2.1 hF.size, h.lts.2.2.2⟩
theorem Ws.later {w w' : World} {N wb cb pb n : Nat} {x : Prg} {s : PrgP} {w0 : World} (h : Ws w N wb cb pb x s w0 n) (hB : Below w.heap.size w w') : Ws w' N wb cb pb x s w0 n :=
 h.fw (S := fun _ => False) (Fw.of_below hB) (fun _ e => e.elim) (fun _ e => e.elim)
/- The walker asks for a level. -/
open Go.RowKit Go.ChangeMaps

inductive LwEnd (r : Option Bool) (N wb cb pb : Nat) (x : Prg) (s : PrgP) (w0 : World) (n : Nat) (w : World) : Ending → World → Prop where
 | ok {t : Bool} {w' : World} (h : r = some t) (hW : Ws w' N wb cb pb x s w0 n) (hF : Fw (fun k => k = cb) w w') : LwEnd r N wb cb pb x s w0 n w (.returned (.bool t)) w'
 | no {w' : World} (h : r = none) (hF : Fw (fun k => k = cb) w w') : LwEnd r N wb cb pb x s w0 n w (Pn 10) w'
theorem Pln.later {w w' : World} {b : Nat} (h : Pln w b) (hB : Below w.heap.size w w') : Pln w' b := by
 obtain ⟨c, t, h⟩ := h
 exact ⟨c, t, (hB.block b (lt_blk h)).trans h⟩
theorem Pln.old {w w' : World} {N b : Nat} (h : Pln w b) (hB : Below N w w') (hb : b < N) : Pln w' b := by
 obtain ⟨c, t, h⟩ := h
 exact ⟨c, t, (hB.block b hb).trans h⟩
def putH (w : World) (b : Nat) (o : Obj) : World := { w with heap := w.heap.setIfInBounds b o }
theorem putH_fw (w : World) (b : Nat) (o : Obj) : Fw (fun k => k = b) w (putH w b o) := ⟨rfl, rfl, rfl, by simp [putH], fun k _ hn => by simp only [putH]; exact Array.getElem?_setIfInBounds_ne (Ne.symm hn)⟩
theorem putH_at {w : World} {b : Nat} {o o' : Obj} (h : w.heap[b]? = some o') : (putH w b o).heap[b]? = some o := by simp [putH, lt_blk h]
theorem bas_str (c c' : Array Value) (q : Nat × Nat) : Obj.cells c 93 q ≠ Obj.cells c' 9 (0, 0) := fun e => by injection e with _ e _; exact absurd e (by decide)
theorem Ws.putC {w : World} {N wb cb pb n : Nat} {x : Prg} {s : PrgP} {w0 : World} (h : Ws w N wb cb pb x s w0 n) {es : Array MapEntry} {clock : Nat} (hb : w.heap[cb]? = some (.map es clock)) {i : Nat} {fn : Fnc} {e : Ex} {eb eo c d : Nat} {p q : Option Addr} (hn : ∀ y ∈ es.toList, y.key ≠ keyV (i : Int) ⟨eb, eo, none⟩) (hi : x.fns[i]? = some fn) (he : e.At w0 N eb eo) (hlt : eb < N) (hpl : Pln w0 eb)
   (h1 : SRow w 0 (.slice p (e.bas x fn).words.length c) (e.bas x fn).words) (h2 : SRow w 0 (.slice q (e.bas x fn).places.length d) (e.bas x fn).places) :
   Ws (putH w cb (.map (es.push { key := keyV (i : Int) ⟨eb, eo, none⟩, val := .agg #[.slice p (e.bas x fn).words.length c, .slice q (e.bas x fn).places.length d, .bool (e.bas x fn).secret, .bool (e.bas x fn).refused], born := clock }) (clock + 1))) N wb cb pb x s w0 n := by
 have hF := putH_fw w cb (.map (es.push { key := keyV (i : Int) ⟨eb, eo, none⟩, val := .agg #[.slice p (e.bas x fn).words.length c, .slice q (e.bas x fn).places.length d, .bool (e.bas x fn).secret, .bool (e.bas x fn).refused], born := clock }) (clock + 1))
 have hA := putH_at (o := .map (es.push { key := keyV (i : Int) ⟨eb, eo, none⟩, val := .agg #[.slice p (e.bas x fn).words.length c, .slice q (e.bas x fn).places.length d, .bool (e.bas x fn).secret, .bool (e.bas x fn).refused], born := clock }) (clock + 1)) hb
 generalize putH w cb _ = W at hF hA ⊢
 have hs : ∀ k, k = cb → ∀ c, w.heap[k]? ≠ some (.cells c 9 (0, 0)) := fun k e c h' => by rw [e, hb] at h'; cases h'
 have nw : wb ≠ cb := fun e => by have := h.wk; rw [e, hb] at this; cases this
 have np : pb ≠ cb := fun e => by have := h.prg.cs; rw [e, hb] at this; cases this
 have hB := hF.below h.lts.2.2.1 (fun k e => by rw [e]; exact h.lts.2.1)
 refine ⟨(hF.block wb (lt_blk h.wk) nw).trans h.wk, ⟨_, _, hA, ?_, fun y hy => ?_⟩, ⟨(hF.block pb (lt_blk h.prg.cs) np).trans h.prg.cs, h.prg.ok.later hB (Nat.le_refl N)⟩, h.old.trans hB, h.z, h.lts.1, h.lts.2.1, Nat.le_trans h.lts.2.2.1 hF.size, h.lts.2.2.2⟩
 · obtain ⟨es', clock', hb', hnd, _⟩ := h.ca
   rw [hb] at hb'
   cases hb'
   rw [Array.toList_push, List.map_append, List.nodup_append]
   refine ⟨hnd, by simp, fun a ha b' hb' => ?_⟩
   simp at hb'
   subst hb'
   obtain ⟨y, hy, rfl⟩ := List.mem_map.1 ha
   exact hn y hy
 · obtain ⟨es', clock', hb', hnd, hE⟩ := h.ca
   rw [hb] at hb'
   cases hb'
   rw [Array.toList_push, List.mem_append, List.mem_singleton] at hy
   rcases hy with hy | rfl
   · obtain ⟨k, fn, e, b, o, p, q, c, d, e1, e2, e3, e4, e5, e6, e7, e8⟩ := hE y hy
     exact ⟨k, fn, e, b, o, p, q, c, d, e1, e2, e3, e4, e5, e6, e7.fw hF hs, e8.fw hF hs⟩
   · exact ⟨i, fn, e, eb, eo, p, q, c, d, rfl, hi, he, hlt, hpl, rfl, h1.fw hF hs, h2.fw hF hs⟩
theorem LvEnd.walk {r : Option Bool} {N wb cb pb n : Nat} {x : Prg} {s : PrgP} {w0 w w1 : World} {z : Ending} {w2 : World} (h : LvEnd r w1 z w2) (hW : Ws w1 N wb cb pb x s w0 n) (hF : Fw (fun k => k = cb) w w1) : LwEnd r N wb cb pb x s w0 n w z w2 := by
 rcases h with ⟨h, hB⟩ | ⟨h, hB⟩
 · exact .ok h (hW.later hB) (hF.new (Fw.of_below (S := fun _ => False) hB) (fun _ e => e.elim))
 · exact .no h (hF.new (Fw.of_below (S := fun _ => False) hB) (fun _ e => e.elim))
set_option maxRecDepth 100000 in
set_option maxHeartbeats 6400000 in
theorem level_walk (x : Prg) (s : PrgP) (i : Nat) (fn : Fnc) (e : Ex) (deep wb cb pb mb eb eo N n : Nat) (T : List (List UInt8)) (w0 w : World) (hW : Ws w N wb cb pb x s w0 n) (hi : x.fns[i]? = some fn) (hchk : e.chk x fn deep = 0) (he : e.At (zc w0) N eb eo) (hb : eb < N) (hsz : e.size ≤ 3000000) (hM : Mp w mb (mem T)) (hmc : mb ≠ cb) :
   Calls Tryz.prog 109 #[.pointer (some ⟨wb, 0, none⟩), .int .i64 (i : Int), .pointer (some ⟨eb, eo, none⟩), .map (some mb)] w (LwEnd (e.lev x fn T) N wb cb pb x s w0 n w) := by
 obtain ⟨W1, hW1, k1, hB1, hz1⟩ := one_alloc w (.cells #[.int .i64 (i : Int), .pointer (some ⟨eb, eo, none⟩)] 174)
 have h1 := hW.later hB1
 obtain ⟨es, clock, hcb, hnd, hE⟩ := h1.ca
 have hpl := he.pln
 have heW := Ex.At.later h1.old (Nat.le_refl N) e eb eo hb (he.leq (zc_le w0))
 have hk : KeysOf W1 es.toList := fun y hy => by
   obtain ⟨k, fn, e, b, o, p, q, c, d, e1, e2, e3, e4, e5, e6⟩ := hE y hy
   exact ⟨_, _, e1, e5.old h1.old e4⟩
 have hkL : ∀ W, Below W1.heap.size W1 W → KeysOf W es.toList := fun W hB y hy => by
   obtain ⟨k, a, h1, h2⟩ := hk y hy
   exact ⟨k, a, h1, h2.later hB⟩
 have hplW : Pln W1 eb := hpl.old h1.old hb
 by_cases hf : ∃ y ∈ es.toList, y.key = keyV (i : Int) ⟨eb, eo, none⟩
 · obtain ⟨y, hy, hyk⟩ := hf
   obtain ⟨k', fn', e', b', o', p, q, c, d, e1, e2, e3, e4, e5, e6, e7, e8⟩ := hE y hy
   have hkk := keyV_inj (e1.symm.trans hyk)
   have hkn : k' = i := by have := hkk.1; omega
   have hab := hkk.2
   simp only [Addr.mk.injEq, and_true] at hab
   obtain ⟨rfl, rfl⟩ := hab
   subst hkn
   rw [hi] at e2
   cases e2
   have hee := Ex.At.inj e' e b' o' e3 (he.leq (zc_le w0))
   subst hee
   have hval : y.val = .agg #[.slice p (e'.bas x fn).words.length c, .slice q (e'.bas x fn).places.length d, .bool (e'.bas x fn).secret, .bool (e'.bas x fn).refused] := e6
   have HLV := Lib.hid (show e'.lev x fn T = (e'.bas x fn).lev T from rfl)
   have hly := fun (W : World) (hB : Below W1.heap.size W1 W) => look_yes ((hB.block _ (lt_blk hcb)).trans hcb) (hkL W hB) hnd (k' : Int) ⟨b', o', none⟩ (hplW.later hB) hy hyk
   rw [hval] at hly
   have hwt : (e'.bas x fn).wt ≤ 4000000 := by
     have := e'.wit_wt x fn bas0
     unfold Ex.bas
     simp only [show bas0.wt = 0 from rfl] at this
     omega
   generalize e'.lev x fn T = r at HLV ⊢
   generalize e'.bas x fn = B at e7 e8 hly HLV hwt
   have HL2 := Lib.hid (fun (W : World) (hB : Below W1.heap.size W1 W) => show W.cell? ⟨wb, 2, none⟩ = some (.map (some cb)) ∧ W.cell? ⟨w.heap.size, 0, none⟩ = some (.int .i64 (k' : Int)) ∧ W.cell? ⟨w.heap.size, 1, none⟩ = some (.pointer (some ⟨b', o', none⟩)) ∧ (Instr.lookup 78 (.map (some cb)) (.agg #[.int .i64 (k' : Int), .pointer (some ⟨b', o', none⟩)]) true).run Tryz.prog W = .ok (.tuple #[.agg #[.slice p B.words.length c, .slice q B.places.length d, .bool B.secret, .bool B.refused], .bool true]) W from
     ⟨cell_blk ((hB.block _ (lt_blk h1.wk)).trans h1.wk) rfl, cell_blk ((hB.block _ (lt_blk k1)).trans k1) rfl, cell_blk ((hB.block _ (lt_blk k1)).trans k1) rfl, hly W hB⟩)
   have HW1 := Lib.hid hW1
   have HZ1 := Lib.hid hz1
   have H1 := Lib.hid h1
   have HF1 := Lib.hid (show Fw (fun k => k = cb) w W1 from Fw.of_below hB1)
   have HM1 := Lib.hid (hM.later hB1)
   have HR := Lib.hid (And.intro e7 (And.intro e8 hwt))
   clear hW1 k1 hB1 hz1 h1 hE hpl heW hk hkL hplW hy hyk e1 e3 e4 e5 e6 e7 e8 hkk hval hly hwt hW hi hchk he hM hcb hnd hb hsz
   go_enter Tryz.func109, Tryz.ntmps109
   go_upto_region 2 with fail
   rw [HW1.out]
   clear HW1
   refine wp_region_held_drew (S := fun W => W.cell? ⟨wb, 2, none⟩ = some (.map (some cb)) ∧ W.cell? ⟨w.heap.size, 0, none⟩ = some (.int .i64 (k' : Int)) ∧ W.cell? ⟨w.heap.size, 1, none⟩ = some (.pointer (some ⟨b', o', none⟩)) ∧ (Instr.lookup 78 (.map (some cb)) (.agg #[.int .i64 (k' : Int), .pointer (some ⟨b', o', none⟩)]) true).run Tryz.prog W = .ok (.tuple #[.agg #[.slice p B.words.length c, .slice q B.places.length d, .bool B.secret, .bool B.refused], .bool true]) W) (by kernel_rfl) ?_ (fun hHeld => ?_)
   · exact HL2.out _ (Below.refl _ _).drew
   refine tq 0 ?_
   refine tq 1 ?_
   refine tq 2 ?_
   refine tq 3 ?_
   refine tq 4 ?_
   refine tq 5 ?_
   refine tq 6 ?_
   refine tq 7 ?_
   refine tq 8 ?_
   refine wpAnyH_ready (rs := [9]) (by kernel_rfl) (by simp) ?_
   refine rdy rfl (fun K hK => ?_) AllReadyH.nil
   go_simp
   refine hK.out _ _ ?_ (fun hHeldN => ?_)
   · exact HL2.out _ ((Below.refl _ _).drew.alloc (Nat.le_refl _) _)
   clear hK K hHeld
   have hHeld := hHeldN
   clear hHeldN
   try simp only [Act.put, List.setIfInBounds_toArray, List.set_cons_zero, List.set_cons_succ]
   refine wpAnyH_ready (rs := [10]) (by kernel_rfl) (by simp) ?_
   refine rdy rfl (fun K hK => ?_) AllReadyH.nil
   go_simp
   have HB2 := Lib.hid (show Below W1.heap.size W1 (W1.alloc (.cells #[.slice p B.words.length c, .slice q B.places.length d, .bool B.secret, .bool B.refused] 93)).drew from ((Below.refl _ _).alloc (Nat.le_refl _) _).drew)
   have HK2 := Lib.hid (show (W1.alloc (.cells #[.slice p B.words.length c, .slice q B.places.length d, .bool B.secret, .bool B.refused] 93)).drew.heap[W1.heap.size]? = some (.cells #[.slice p B.words.length c, .slice q B.places.length d, .bool B.secret, .bool B.refused] 93 (0, 0)) from by have h0 := heap_alloc_new W1 (.cells #[.slice p B.words.length c, .slice q B.places.length d, .bool B.secret, .bool B.refused] 93); exact h0)
   generalize (W1.alloc (.cells #[.slice p B.words.length c, .slice q B.places.length d, .bool B.secret, .bool B.refused] 93)).drew = W2 at HB2 HK2 ⊢
   refine hK.out _ _ ?_ (fun hHeldN => ?_)
   · exact HL2.out _ HB2.out
   clear hK K hHeld
   have hHeld := hHeldN
   clear hHeldN
   try simp only [Act.put, List.setIfInBounds_toArray, List.set_cons_zero, List.set_cons_succ]
   refine tq 11 ?_
   refine wpAnyH_done (by kernel_rfl) ?_ _
   clear hHeld
   have HWs := Lib.hid (H1.out.later HB2.out)
   have HFw := Lib.hid (HF1.out.new (Fw.of_below (S := fun _ => False) HB2.out) (fun _ e => e.elim))
   have HRR := Lib.hid (show BVal W2 W2.heap.size (.agg #[.slice p B.words.length c, .slice q B.places.length d, .bool B.secret, .bool B.refused]) B from by
     obtain ⟨r1, r2, hwt⟩ := HR.out
     unfold Bas.wt at hwt
     obtain ⟨_, _, q1, s1⟩ := ownStrs (r1.kept (row := none) ⟨HB2.out.os, HB2.out.tape, HB2.out.output, HB2.out.size, fun k hk _ => HB2.out.block k hk⟩ (fun _ _ e => by cases e)) (by omega)
     obtain ⟨_, _, q2, s2⟩ := ownStrs (r2.kept (row := none) ⟨HB2.out.os, HB2.out.tape, HB2.out.output, HB2.out.size, fun k hk _ => HB2.out.block k hk⟩ (fun _ _ e => by cases e)) (by omega)
     cases q1
     cases q2
     exact ⟨_, _, _, _, rfl, s1, s2⟩)
   have HLv := Lib.hid (level_any B T W1.heap.size mb W2.heap.size _ W2 HRR.out ⟨_, _, _, _, rfl, HK2.out⟩ (Nat.le_refl _) (HM1.out.later HB2.out))
   rw [← HLV.out] at HLv
   go_wp2_with fail
   refine HLv.out.mono ?_
   intro z w9 h9
   have H9 := Lib.hid (h9.walk HWs.out HFw.out)
   rcases h9 with ⟨hr, hB9⟩ | ⟨hr, hB9⟩
   · clear hr hB9
     go_wp2_with fail
     go_ret
     exact H9.out
   · clear hr hB9
     unfold Pn at H9 ⊢
     go_wp2_with fail
     exact ⟨rfl, H9.out⟩
 · have hn : ∀ y ∈ es.toList, y.key ≠ keyV (i : Int) ⟨eb, eo, none⟩ := fun y hy e => hf ⟨y, hy, e⟩
   have HL2 := Lib.hid (fun (W : World) (hB : Below W1.heap.size W1 W) => show W.cell? ⟨wb, 2, none⟩ = some (.map (some cb)) ∧ W.cell? ⟨w.heap.size, 0, none⟩ = some (.int .i64 (i : Int)) ∧ W.cell? ⟨w.heap.size, 1, none⟩ = some (.pointer (some ⟨eb, eo, none⟩)) ∧ (Instr.lookup 78 (.map (some cb)) (.agg #[.int .i64 (i : Int), .pointer (some ⟨eb, eo, none⟩)]) true).run Tryz.prog W = .ok (.tuple #[.agg #[.slice none 0 0, .slice none 0 0, .bool false, .bool false], .bool false]) W from
     ⟨cell_blk ((hB.block _ (lt_blk h1.wk)).trans h1.wk) rfl, cell_blk ((hB.block _ (lt_blk k1)).trans k1) rfl, cell_blk ((hB.block _ (lt_blk k1)).trans k1) rfl, look_no ((hB.block _ (lt_blk hcb)).trans hcb) (hkL W hB) (i : Int) ⟨eb, eo, none⟩ (hplW.later hB) hn⟩)
   have HW1 := Lib.hid hW1
   have HZ1 := Lib.hid hz1
   have H1 := Lib.hid h1
   have HF1 := Lib.hid (show Fw (fun k => k = cb) w W1 from Fw.of_below hB1)
   have HM1 := Lib.hid (hM.later hB1)
   have HSz := Lib.hid (And.intro (lt_blk hW.wk) (And.intro (lt_blk hW.cb_map.choose_spec.choose_spec) (lt_blk hW.prg.cs)))
   have HK1 := Lib.hid k1
   have HNo := Lib.hid hn
   have HKL := Lib.hid hkL
   have HPl := Lib.hid (And.intro hpl hplW)
   have HCB := Lib.hid hcb
   have HE0 := Lib.hid (And.intro (he.leq (zc_le w0)) (And.intro hi hb))
   have HBs := Lib.hid (fun (W : World) (hB : Below W1.heap.size W1 W) => basisOf_any x s i fn e deep pb eb eo N W (h1.later hB).prg (Nat.le_trans h1.lts.2.2.1 hB.size) hi hchk (Ex.At.later (hB.mono h1.lts.2.2.1) (Nat.le_refl N) e eb eo hb heW) hb hsz)
   obtain ⟨lr, hlr⟩ : ∃ lr, lr = e.lev x fn T := ⟨_, rfl⟩
   rw [← hlr]
   have HLV := Lib.hid (show lr = (e.bas x fn).lev T from hlr)
   clear hlr
   have HWT := Lib.hid (show (e.bas x fn).wt ≤ 4000000 from by
     have := e.wit_wt x fn bas0
     unfold Ex.bas
     simp only [show bas0.wt = 0 from rfl] at this
     omega)
   clear hW1 k1 hB1 hz1 h1 hE hpl heW hk hkL hplW hW hchk he hM hcb hnd hb hsz hn hf
   go_enter Tryz.func109, Tryz.ntmps109
   go_upto_region 2 with fail
   rw [HW1.out]
   clear HW1
   refine wp_region_held_drew (S := fun W => W.cell? ⟨wb, 2, none⟩ = some (.map (some cb)) ∧ W.cell? ⟨w.heap.size, 0, none⟩ = some (.int .i64 (i : Int)) ∧ W.cell? ⟨w.heap.size, 1, none⟩ = some (.pointer (some ⟨eb, eo, none⟩)) ∧ (Instr.lookup 78 (.map (some cb)) (.agg #[.int .i64 (i : Int), .pointer (some ⟨eb, eo, none⟩)]) true).run Tryz.prog W = .ok (.tuple #[.agg #[.slice none 0 0, .slice none 0 0, .bool false, .bool false], .bool false]) W) (by kernel_rfl) ?_ (fun hHeld => ?_)
   · exact HL2.out _ (Below.refl _ _).drew
   refine tq 0 ?_
   refine tq 1 ?_
   refine tq 2 ?_
   refine tq 3 ?_
   refine tq 4 ?_
   refine tq 5 ?_
   refine tq 6 ?_
   refine tq 7 ?_
   refine tq 8 ?_
   refine wpAnyH_ready (rs := [9]) (by kernel_rfl) (by simp) ?_
   refine rdy rfl (fun K hK => ?_) AllReadyH.nil
   go_simp
   refine hK.out _ _ ?_ (fun hHeldN => ?_)
   · exact HL2.out _ ((Below.refl _ _).drew.alloc (Nat.le_refl _) _)
   clear hK K hHeld
   have hHeld := hHeldN
   clear hHeldN
   try simp only [Act.put, List.setIfInBounds_toArray, List.set_cons_zero, List.set_cons_succ]
   refine wpAnyH_ready (rs := [10]) (by kernel_rfl) (by simp) ?_
   refine rdy rfl (fun K hK => ?_) AllReadyH.nil
   go_simp
   have HB2 := Lib.hid (show Below W1.heap.size W1 (W1.alloc (.cells #[.slice none 0 0, .slice none 0 0, .bool false, .bool false] 93)).drew from ((Below.refl _ _).alloc (Nat.le_refl _) _).drew)
   have HK2 := Lib.hid (show (W1.alloc (.cells #[.slice none 0 0, .slice none 0 0, .bool false, .bool false] 93)).drew.heap[W1.heap.size]? = some (.cells #[.slice none 0 0, .slice none 0 0, .bool false, .bool false] 93 (0, 0)) from by have h0 := heap_alloc_new W1 (.cells #[.slice none 0 0, .slice none 0 0, .bool false, .bool false] 93); exact h0)
   generalize (W1.alloc (.cells #[.slice none 0 0, .slice none 0 0, .bool false, .bool false] 93)).drew = W2 at HB2 HK2 ⊢
   refine hK.out _ _ ?_ (fun hHeldN => ?_)
   · exact HL2.out _ HB2.out
   clear hK K hHeld
   have hHeld := hHeldN
   clear hHeldN
   try simp only [Act.put, List.setIfInBounds_toArray, List.set_cons_zero, List.set_cons_succ]
   refine tq 11 ?_
   refine wpAnyH_done (by kernel_rfl) ?_ _
   clear hHeld
   have c0 := cell_blk (H1.out.later HB2.out).wk (j := 0) rfl
   go_wp2_with fail
   refine (HBs.out W2 HB2.out).mono ?_
   rintro z w3 ⟨p, c, q, d, rfl, hr1, hr2, hB3⟩
   have HB3 := Lib.hid (HB2.out.trans (hB3.mono HB2.out.size))
   have kt := (hB3.block _ (lt_blk HK2.out)).trans HK2.out
   have HKT := Lib.hid kt
   obtain ⟨B, hBB⟩ : ∃ B, B = e.bas x fn := ⟨_, rfl⟩
   rw [← hBB] at hr1 hr2 ⊢
   have HBB := Lib.hid hBB
   have HR3 := Lib.hid (And.intro hr1 hr2)
   have z0 := cell_blk kt (j := 0) rfl
   have z1 := cell_blk kt (j := 1) rfl
   have z2 := cell_blk kt (j := 2) rfl
   have z3 := cell_blk kt (j := 3) rfl
   have fz : ∀ j, w3.frozen? ⟨W1.heap.size, j, none⟩ = false := fun j => by simp [World.frozen?, kt]
   have f0 := fz 0
   have f1 := fz 1
   have f2 := fz 2
   have f3 := fz 3
   clear hr1 hr2 hB3 kt hBB fz c0
   go_upto_region 5 with fail
   have hF4 := Fw.of_but (((((But.refl W1.heap.size w3).set 0 (.slice p B.words.length c)).set 1 (.slice q B.places.length d)).set 2 (.bool B.secret)).set 3 (.bool B.refused))
   have hk4 := set4 HKT.out (.slice p B.words.length c) (.slice q B.places.length d) (.bool B.secret) (.bool B.refused)
   generalize ((((w3.setCell ⟨W1.heap.size, 0, none⟩ (.slice p B.words.length c)).setCell ⟨W1.heap.size, 1, none⟩ (.slice q B.places.length d)).setCell ⟨W1.heap.size, 2, none⟩ (.bool B.secret)).setCell ⟨W1.heap.size, 3, none⟩ (.bool B.refused)) = W4 at hF4 hk4 ⊢
   have hst : ∀ k, k = W1.heap.size → ∀ c, w3.heap[k]? ≠ some (.cells c 9 (0, 0)) := fun k e c h => by rw [e, HKT.out] at h; injection h with h; exact bas_str _ _ _ h
   have hsz := HSz.out
   have hz1 := HZ1.out
   have hl1 := H1.out.lts
   have ws4 : Ws W4 N wb cb pb x s w0 n := (H1.out.later HB3.out).fw hF4 (fun k e => by omega) (fun k e => ⟨by omega, by omega, by omega, hst k e⟩)
   have hcb4 := (hF4.block cb (lt_blk ((HB3.out.block _ (lt_blk HCB.out)).trans HCB.out)) (by omega)).trans ((HB3.out.block _ (lt_blk HCB.out)).trans HCB.out)
   have r1 := HR3.out.1.fw hF4 hst
   have r2 := HR3.out.2.fw hF4 hst
   have hk1 := (hF4.block _ (lt_blk ((HB3.out.block _ (lt_blk HK1.out)).trans HK1.out)) (by omega)).trans ((HB3.out.block _ (lt_blk HK1.out)).trans HK1.out)
   have hB4 : Below W1.heap.size W1 W4 := HB3.out.trans (hF4.below HB3.out.size (fun k e => by omega))
   have HL5 := Lib.hid (show W4.drew.cell? ⟨wb, 2, none⟩ = some (.map (some cb)) ∧ W4.drew.cell? ⟨w.heap.size, 0, none⟩ = some (.int .i64 (i : Int)) ∧ W4.drew.cell? ⟨w.heap.size, 1, none⟩ = some (.pointer (some ⟨eb, eo, none⟩)) ∧ W4.drew.cell? ⟨W1.heap.size, 0, none⟩ = some (.slice p B.words.length c) ∧ W4.drew.cell? ⟨W1.heap.size, 1, none⟩ = some (.slice q B.places.length d) ∧ W4.drew.cell? ⟨W1.heap.size, 2, none⟩ = some (.bool B.secret) ∧ W4.drew.cell? ⟨W1.heap.size, 3, none⟩ = some (.bool B.refused) from
     ⟨cell_blk ws4.wk rfl, cell_blk hk1 rfl, cell_blk hk1 rfl, cell_blk hk4 rfl, cell_blk hk4 rfl, cell_blk hk4 rfl, cell_blk hk4 rfl⟩)
   have HPut := Lib.hid (show (Instr.mapUpdate 78 (.map (some cb)) (.agg #[.int .i64 (i : Int), .pointer (some ⟨eb, eo, none⟩)]) (.agg #[.slice p B.words.length c, .slice q B.places.length d, .bool B.secret, .bool B.refused])).run Tryz.prog W4.drew = .ok () (putH W4.drew cb (.map (es.push { key := keyV (i : Int) ⟨eb, eo, none⟩, val := .agg #[.slice p B.words.length c, .slice q B.places.length d, .bool B.secret, .bool B.refused], born := clock }) (clock + 1))) from
     put_part (w := W4.drew) hcb4 (HKL.out W4.drew hB4.drew) (i : Int) ⟨eb, eo, none⟩ (HPl.out.2.later hB4.drew) HNo.out _)
   have HWs := Lib.hid (show Ws (putH W4.drew cb (.map (es.push { key := keyV (i : Int) ⟨eb, eo, none⟩, val := .agg #[.slice p B.words.length c, .slice q B.places.length d, .bool B.secret, .bool B.refused], born := clock }) (clock + 1))) N wb cb pb x s w0 n from by
     have hBB := HBB.out
     subst hBB
     exact (ws4.later (Below.refl _ _).drew).putC hcb4 HNo.out HE0.out.2.1 HE0.out.1 HE0.out.2.2 HPl.out.1 r1 r2)
   have hFp := putH_fw W4.drew cb (.map (es.push { key := keyV (i : Int) ⟨eb, eo, none⟩, val := .agg #[.slice p B.words.length c, .slice q B.places.length d, .bool B.secret, .bool B.refused], born := clock }) (clock + 1))
   have HFw := Lib.hid (show Fw (fun k => k = cb) w (putH W4.drew cb (.map (es.push { key := keyV (i : Int) ⟨eb, eo, none⟩, val := .agg #[.slice p B.words.length c, .slice q B.places.length d, .bool B.secret, .bool B.refused], born := clock }) (clock + 1))) from
     (HF1.out.new (Fw.of_below (S := fun _ => False) (hB4.drew)) (fun _ e => e.elim)).trans hFp)
   have hcn : mb ≠ cb := hmc
   have HMp := Lib.hid (show Mp (putH W4.drew cb (.map (es.push { key := keyV (i : Int) ⟨eb, eo, none⟩, val := .agg #[.slice p B.words.length c, .slice q B.places.length d, .bool B.secret, .bool B.refused], born := clock }) (clock + 1))) mb (mem T) from
     (HM1.out.later (hB4.drew)).of_block (hFp.block mb ((HM1.out.later (hB4.drew)).lt) hcn))
   have kcb : ∀ k, k = cb → ∀ c, W4.drew.heap[k]? ≠ some (.cells c 9 (0, 0)) := fun k e c h => by rw [e] at h; have := hcb4.symm.trans h; cases this
   have q1 := (show SRow W4.drew 0 _ _ from r1).fw hFp kcb
   have q2 := (show SRow W4.drew 0 _ _ from r2).fw hFp kcb
   have k9 := (hFp.block _ (lt_blk hk4) (show W1.heap.size ≠ cb by omega)).trans hk4
   generalize putH W4.drew cb _ = W5 at HPut HWs HFw HMp q1 q2 k9
   have HLv := Lib.hid (show Calls Tryz.prog 41 #[.pointer (some ⟨W1.heap.size, 0, none⟩), .map (some mb)] W5 (LvEnd lr W5) from by
     have hwt := HWT.out
     rw [← HBB.out] at hwt
     unfold Bas.wt at hwt
     obtain ⟨_, _, e1, s1⟩ := ownStrs q1 (by omega)
     obtain ⟨_, _, e2, s2⟩ := ownStrs q2 (by omega)
     cases e1
     cases e2
     rw [HLV.out, ← HBB.out]
     exact level_any B T W1.heap.size mb W5.heap.size _ W5 ⟨_, _, _, _, rfl, s1, s2⟩ ⟨_, _, _, _, rfl, k9⟩ (Nat.le_refl _) HMp.out)
   clear hF4 hk4 hst hsz hz1 hl1 ws4 hcb4 r1 r2 hk1 hB4 hFp hcn kcb q1 q2 k9 z0 z1 z2 z3 f0 f1 f2 f3
   refine bgk 6 (fun W => W.cell? ⟨wb, 2, none⟩ = some (.map (some cb)) ∧ W.cell? ⟨w.heap.size, 0, none⟩ = some (.int .i64 (i : Int)) ∧ W.cell? ⟨w.heap.size, 1, none⟩ = some (.pointer (some ⟨eb, eo, none⟩)) ∧ W.cell? ⟨W1.heap.size, 0, none⟩ = some (.slice p B.words.length c) ∧ W.cell? ⟨W1.heap.size, 1, none⟩ = some (.slice q B.places.length d) ∧ W.cell? ⟨W1.heap.size, 2, none⟩ = some (.bool B.secret) ∧ W.cell? ⟨W1.heap.size, 3, none⟩ = some (.bool B.refused)) (HL5.out) (fun hHeld => ?_)
   refine tz 0 ?_
   refine tz 1 ?_
   refine tz 2 ?_
   refine tl 3 ?_
   refine tl 4 ?_
   refine tl 5 ?_
   refine rdb 6 rfl (fun K hK => ?_)
   have hput := HPut.out
   go_simp
   refine hK.out _ _ ?_
   clear hK K
   try simp only [Act.put, List.setIfInBounds_toArray, List.set_cons_zero, List.set_cons_succ]
   refine dnk ?_ (by kernel_rfl) _
   clear hHeld
   go_wp2_with fail
   refine HLv.out.mono ?_
   intro z w9 h9
   have H9 := Lib.hid (h9.walk HWs.out HFw.out)
   rcases h9 with ⟨hr, hB9⟩ | ⟨hr, hB9⟩
   · clear hr hB9
     go_wp2_with fail
     go_ret
     exact H9.out
   · clear hr hB9
     unfold Pn at H9 ⊢
     go_wp2_with fail
     exact ⟨rfl, H9.out⟩
end Go.Proofs.YtihmibggonffdaaGreat
