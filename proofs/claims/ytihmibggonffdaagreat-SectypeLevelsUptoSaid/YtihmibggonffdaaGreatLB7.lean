/- U2, LB2, LB6, LB3, LB7 as one. -/
import Derived.Test.YtihmibggonffdaaGreatU1
import Derived.Test.YtihmibggonffdaaGreatT5
import Derived.Test.YtihmibggonffdaaGreatDF
import Derived.Test.YtihmibggonffdaaGreatD2
import Derived.Test.YtihmibggonffdaaGreatD6
import Derived.Test.YtihmibggonffdaaGreatTK3
import Derived.Test.YtihmibggonffdaaGreatF1
/- The chapter's programs. -/
namespace Go.Proofs.YtihmibggonffdaaGreat
open Go.RowKit

def ex0 : Ex := .mk 0 0 [] .nil
def mkS (kd : Int) (nm : List UInt8) (e a : Ex) (g : Exs) (bd : Sts) : St := .mk kd nm [] e a g 0 0 bd .nil
theorem cut_cell {W : World} {b n : Nat} {t : TypeId} {cs : Array Value} (h : W.heap[b]? = some (.cells cs t (0, 0))) (o : Nat) {L : List Value} (hcs : (cs.toList.drop o).take n = L) (j : Nat) (v : Value) (hj : L[j]? = some v) : W.cell? ⟨b, o + j, none⟩ = some v := by
 rw [← hcs, List.getElem?_take] at hj
 split at hj
 · rw [List.getElem?_drop, Array.getElem?_toList] at hj
   exact cell_blk h hj
 · cases hj
theorem st_at {W : World} {N b : Nat} {t : TypeId} {cs : Array Value} (h : W.heap[b]? = some (.cells cs t (0, 0))) (o : Nat) {kd : Int} {nm : List UInt8} {e a : Ex} {g : Exs} {bd : Sts} {pe pa pg pb : Option Addr} {ce ca cg cb : Nat}
   (hcs : (cs.toList.drop o).take 16 = [.int .i64 kd, .string (str nm), .slice none 0 0, .int .i64 e.op, .int .u64 (e.word : Int), .string (str e.name), .slice pe e.args.len ce, .int .i64 a.op, .int .u64 (a.word : Int), .string (str a.name), .slice pa a.args.len ca, .slice pg g.len cg, .int .u64 0, .int .u64 0, .slice pb bd.len cb, .slice none 0 0])
   (hew : e.word < 18446744073709551616) (haw : a.word < 18446744073709551616) (he : e.args.In W N pe) (ha : a.args.In W N pa) (hg : g.In W N pg) (hb : bd.In W N pb) : (mkS kd nm e a g bd).At W N b o := by
 have c := cut_cell h o hcs
 obtain ⟨op, wd, en, as'⟩ := e
 obtain ⟨op2, wd2, en2, as2⟩ := a
 have hz : ∀ A : Nat → Nat → Prop, Sl N none 0 A := fun A => ⟨Nat.zero_le _, .inl rfl⟩
 exact ⟨⟨c 0 _ rfl, c 1 _ rfl, c 12 _ rfl, c 13 _ rfl, by decide, by decide⟩, ⟨none, 0, c 2 _ rfl, Nat.zero_le _, hz _⟩, ⟨⟨c 3 _ rfl, c 4 _ rfl, c 5 _ rfl, hew⟩, ⟨pe, ce, c 6 _ rfl, he⟩⟩, ⟨⟨c 7 _ rfl, c 8 _ rfl, c 9 _ rfl, haw⟩, ⟨pa, ca, c 10 _ rfl, ha⟩⟩, ⟨pg, cg, c 11 _ rfl, hg⟩, ⟨pb, cb, c 14 _ rfl, hb⟩, ⟨none, 0, c 15 _ rfl, hz _⟩⟩
theorem ex_at {W : World} {N b : Nat} {t : TypeId} {cs : Array Value} (h : W.heap[b]? = some (.cells cs t (0, 0))) (o : Nat) {e : Ex} {p : Option Addr} {k : Nat}
   (hcs : (cs.toList.drop o).take 4 = [.int .i64 e.op, .int .u64 (e.word : Int), .string (str e.name), .slice p e.args.len k]) (hw : e.word < 18446744073709551616) (he : e.args.In W N p) : e.At W N b o := by
 have c := cut_cell h o hcs
 obtain ⟨op, wd, en, as'⟩ := e
 exact ⟨⟨c 0 _ rfl, c 1 _ rfl, c 2 _ rfl, hw⟩, ⟨p, k, c 3 _ rfl, he⟩⟩
theorem exs0 {W : World} {N : Nat} {p : Option Addr} : Exs.nil.In W N p := ⟨Nat.zero_le _, .inl rfl⟩
theorem sts0 {W : World} {N : Nat} {p : Option Addr} : Sts.nil.In W N p := ⟨Nat.zero_le _, .inl rfl⟩
theorem two_in {W : World} {N r : Nat} {a b : Ex} {pa pb : Option Addr} {ca cb : Nat} (h : W.heap[r]? = some (.cells #[.int .i64 a.op, .int .u64 (a.word : Int), .string (str a.name), .slice pa a.args.len ca, .int .i64 b.op, .int .u64 (b.word : Int), .string (str b.name), .slice pb b.args.len cb] 40 (0, 0))) (hr : r < N) (hwa : a.word < 18446744073709551616) (hwb : b.word < 18446744073709551616) (ha : a.args.In W N pa) (hb : b.args.In W N pb) : (Exs.cons a (.cons b .nil)).In W N (some ⟨r, 0, none⟩) :=
 ⟨show 2 ≤ 140737488355328 by decide, .inr ⟨r, 0, rfl, hr, ex_at h 0 rfl hwa ha, ex_at h 4 rfl hwb hb, trivial⟩⟩
theorem one_ex {W : World} {N r : Nat} {a : Ex} {pa : Option Addr} {ca : Nat} (h : W.heap[r]? = some (.cells #[.int .i64 a.op, .int .u64 (a.word : Int), .string (str a.name), .slice pa a.args.len ca] 40 (0, 0))) (hr : r < N) (hwa : a.word < 18446744073709551616) (ha : a.args.In W N pa) : (Exs.cons a .nil).In W N (some ⟨r, 0, none⟩) :=
 ⟨show 1 ≤ 140737488355328 by decide, .inr ⟨r, 0, rfl, hr, ex_at h 0 rfl hwa ha, trivial⟩⟩
def kl1 : Sts := (.cons (mkS 1 [121] (exT 6 (exV [120]) (exN 1)) ex0 .nil .nil) .nil)
def kl2 : Sts := (.cons (mkS 3 [] (exV [120]) ex0 .nil .nil) .nil)
def kl3 : Sts := (.cons (mkS 2 [115] (exN 1) (exV [120]) .nil .nil) .nil)
def kl4 : Sts := (.cons (mkS 6 [102] ex0 ex0 (.cons (exV [120]) .nil) .nil) .nil)
def kl5 : Sts := (.cons (mkS 1 [121] (exV [120]) ex0 .nil .nil) (.cons (mkS 1 [121] (exN 0) ex0 .nil .nil) (.cons (mkS 4 [] (exV [121]) ex0 .nil (.cons (mkS 1 [121] (exT 7 (exV [121]) (exN 1)) ex0 .nil .nil) .nil)) .nil)))
def kl6 : Sts := (.cons (mkS 4 [] (exT 19 (exV [105]) (exN 3)) ex0 .nil (.cons (mkS 1 [105] (exT 6 (exV [105]) (exV [122])) ex0 .nil .nil) (.cons (mkS 1 [122] (exV [120]) ex0 .nil .nil) .nil))) .nil)
theorem kr2 : chkP (mainP kl2) = .no 10 := by kernel_rfl
theorem kr3 : chkP (mainP kl3) = .no 10 := by kernel_rfl
theorem kr4 : chkP (mainP kl4) = .no 10 := by kernel_rfl
theorem kr6 : chkP (mainP kl6) = .no 10 := by kernel_rfl
theorem kr1 : chkP (mainP kl1) = .ok [true] 1 := by kernel_rfl
theorem kr5 : chkP (mainP kl5) = .ok [false] 4 := by kernel_rfl
theorem main_big {l : Sts} (h : l.big ≤ 1048576) : ∀ (i : Nat) (fn : Fnc), (mainP l).fns[i]? = some fn → fn.body.big ≤ 1048576 := by
 intro i fn hi
 match i with
 | 0 => cases hi; decide
 | 1 => cases hi; exact h
 | i + 2 => cases hi
theorem main_chk {l : Sts} {q : Option Addr} {c N : Nat} {w w1 : World} (hbig : l.big ≤ 1048576) (hA : MainAt w1 w.heap.size l q c) (hs : w1.heap.size = w.heap.size + 6) (hB : Below w.heap.size w w1) (hl : l.In w N q) (hlz : l.In (zc w) N q) (hN : N ≤ w.heap.size) :
   Calls Tryz.prog 8 #[.agg #[.slice none 0 0, .slice (some ⟨w.heap.size + 5, 0, none⟩) 2 2]] w1 (ChEnd (chkP (mainP l)) w1.heap.size w1) :=
 check_any (mainP l) (mainS w.heap.size) (w.heap.size + 6) w1 (hA.ok (hl.later (hB.mono hN) (Nat.le_refl N)) (by omega)) (hA.z.ok (hlz.later ((zc_below hB).mono hN) (Nat.le_refl N)) (by omega)) (by omega) (Nat.le_refl 0) (Nat.le_refl 2) (main_big hbig)
theorem main_no {l : Sts} {q : Option Addr} {c N e : Nat} {w w1 : World} (hr : chkP (mainP l) = .no e) (hbig : l.big ≤ 1048576) (hA : MainAt w1 w.heap.size l q c) (hs : w1.heap.size = w.heap.size + 6) (hB : Below w.heap.size w w1) (hl : l.In w N q) (hlz : l.In (zc w) N q) (hN : N ≤ w.heap.size) :
   Calls Tryz.prog 8 #[.agg #[.slice none 0 0, .slice (some ⟨w.heap.size + 5, 0, none⟩) 2 2]] w1 fun z w' => z = .returned (.tuple #[.slice none 0 0, .int .i64 (e : Int)]) ∧ Below w1.heap.size w1 w' := by
 refine (main_chk hbig hA hs hB hl hlz hN).mono ?_
 intro z w' h
 rw [hr] at h
 rcases h with ⟨h1, _, _⟩ | ⟨h1, hF⟩
 · cases h1
 · cases h1; exact ⟨rfl, hF⟩
theorem main_ok {l : Sts} {q : Option Addr} {c N n : Nat} {t : Bool} {w w1 : World} (hr : chkP (mainP l) = .ok [t] n) (hbig : l.big ≤ 1048576) (hA : MainAt w1 w.heap.size l q c) (hs : w1.heap.size = w.heap.size + 6) (hB : Below w.heap.size w w1) (hl : l.In w N q) (hlz : l.In (zc w) N q) (hN : N ≤ w.heap.size) :
   Calls Tryz.prog 8 #[.agg #[.slice none 0 0, .slice (some ⟨w.heap.size + 5, 0, none⟩) 2 2]] w1 fun z w' => ∃ r k, z = .returned (.tuple #[.slice (some ⟨r, 0, none⟩) 1 k, .int .i64 0]) ∧ w'.cell? ⟨r, 0, none⟩ = some (.bool t) ∧ r < w'.heap.size ∧ Below w1.heap.size w1 w' := by
 refine (main_chk hbig hA hs hB hl hlz hN).mono ?_
 intro z w' h
 rw [hr] at h
 rcases h with ⟨h1, hv, hF⟩ | ⟨h1, _⟩
 · cases h1
   obtain ⟨p, k, rfl, h0 | ⟨r, cur, rfl, _, hb, hc⟩⟩ := ownBools hv
   · simp at h0
   · exact ⟨r, k, rfl, hc 0 t rfl, lt_blk hb, hF⟩
 · cases h1
/- Plain: the document's level of an expression, and the program's. -/
open Go.RowKit

section
variable (x : Prg) (fn : Fnc) (g : List UInt8 → Bool)
mutual
def Ex.sl : Ex → Bool
 | .mk op _ nm a => if op = 2 then g nm else if op = 3 then secB x fn nm else a.sl
def Exs.sl : Exs → Bool
 | .nil => false
 | .cons e r => e.sl || r.sl
end
mutual
def Ex.bd : Ex → Bool
 | .mk op _ _ a => a.bd || (decide (op = 3) && a.sl x fn g)
def Exs.bd : Exs → Bool
 | .nil => false
 | .cons e r => e.bd || r.bd
end
mutual
def Ex.any2 : Ex → Bool
 | .mk op _ nm a => (decide (op = 2) && g nm) || a.any2
def Exs.any2 : Exs → Bool
 | .nil => false
 | .cons e r => e.any2 || r.any2
end
end
theorem wi_any (q : List UInt8 → Bool) (l : List (List UInt8)) (s : List UInt8) : (wi l s).any q = (l.any q || q s) := by
 unfold wi
 split
 · rename_i h
   obtain ⟨z, hz, hs⟩ := List.any_eq_true.1 h
   have hzs : z = s := by simpa using hs
   cases hq : q s with
   | false => simp
   | true => rw [Bool.or_true]; exact List.any_eq_true.2 ⟨z, hz, by rw [hzs]; exact hq⟩
 · simp
theorem chk_shape {x : Prg} {fn : Fnc} {op : Int} {wd : Nat} {nm : List UInt8} {a : Exs} {deep : Nat} (h : (Ex.mk op wd nm a).chk x fn deep = 0) : (op = 2 → a = .nil) ∧ (op = 3 → ∃ e, a = .cons e .nil) ∧ a.chk x fn (deep + 1) = 0 := by
 rw [Ex.chk, seq_iff, seq_iff, seq_iff] at h
 obtain ⟨_, h2, _, h4⟩ := h
 rw [ask_iff _ _ (by decide)] at h2
 simp only [shapeB, Ex.args, Ex.op, Bool.and_eq_true, beq_iff_eq] at h2
 refine ⟨fun e => ?_, fun e => ?_, h4⟩
 · subst e
   have h5 := h2.1
   simp [argsN] at h5
   cases a with
   | nil => rfl
   | cons => simp [Exs.len] at h5
 · subst e
   have h5 := h2.1
   simp [argsN] at h5
   cases a with
   | nil => simp [Exs.len] at h5
   | cons e r => cases r with
     | nil => exact ⟨e, rfl⟩
     | cons => simp [Exs.len] at h5; omega
theorem Exs.chk_cons {x : Prg} {fn : Fnc} {e : Ex} {r : Exs} {deep : Nat} (h : (Exs.cons e r).chk x fn deep = 0) : e.chk x fn deep = 0 ∧ r.chk x fn deep = 0 := by rw [Exs.chk, seq_iff] at h; exact h
def Bas.bad (b : Bas) (q : List UInt8 → Bool) : Bool := b.refused || b.places.any q
def Bas.sec (b : Bas) (q : List UInt8 → Bool) : Bool := b.secret || b.words.any q
def Bas.has (b : Bas) (q : List UInt8 → Bool) : Bool := b.words.any q || b.places.any q
section
variable {x : Prg} {fn : Fnc} (q : List UInt8 → Bool)
mutual
theorem Ex.plc_bad : ∀ (e : Ex) (deep : Nat) (b : Bas), e.chk x fn deep = 0 → (e.plc x fn b).bad q = (b.bad q || (e.bd x fn q || e.sl x fn q)) ∧ (e.plc x fn b).sec q = b.sec q ∧ (e.plc x fn b).has q = (b.has q || e.any2 q)
 | .mk op wd nm a, deep, b, h => by
   obtain ⟨h2, h3, h4⟩ := chk_shape h
   obtain ⟨i1, i2, i3⟩ := Exs.plc_bad a (deep + 1) (plcB x fn op nm b) h4
   rw [Ex.plc, i1, i2, i3]
   unfold plcB
   by_cases e2 : op = 2
   · subst e2
     obtain rfl := h2 rfl
     rw [if_pos rfl, Ex.bd, Ex.sl, Ex.any2, if_pos rfl]
     simp only [Exs.bd, Exs.sl, Exs.any2, Bas.bad, Bas.sec, Bas.has, wi_any]
     simp [Bool.or_assoc]
   · rw [if_neg e2]
     by_cases e3 : op = 3
     · subst e3
       rw [if_pos rfl, Ex.bd, Ex.sl, Ex.any2, if_neg (by decide), if_pos rfl]
       simp only [Bas.bad, Bas.sec, Bas.has]
       refine ⟨?_, by simp, by simp⟩
       cases b.refused <;> cases b.places.any q <;> cases secB x fn nm <;> cases a.bd x fn q <;> cases a.sl x fn q <;> rfl
     · rw [if_neg e3, Ex.bd, Ex.sl, Ex.any2, if_neg e2, if_neg e3]
       simp [e2, e3]
theorem Exs.plc_bad : ∀ (l : Exs) (deep : Nat) (b : Bas), l.chk x fn deep = 0 → (l.plc x fn b).bad q = (b.bad q || (l.bd x fn q || l.sl x fn q)) ∧ (l.plc x fn b).sec q = b.sec q ∧ (l.plc x fn b).has q = (b.has q || l.any2 q)
 | .nil, _, b, _ => by rw [Exs.plc, Exs.bd, Exs.sl, Exs.any2]; simp
 | .cons e r, deep, b, h => by
   obtain ⟨h1, h2⟩ := Exs.chk_cons h
   obtain ⟨i1, i2, i3⟩ := Ex.plc_bad e deep b h1
   obtain ⟨j1, j2, j3⟩ := Exs.plc_bad r deep (e.plc x fn b) h2
   rw [Exs.plc, j1, j2, j3, i1, i2, i3, Exs.bd, Exs.sl, Exs.any2]
   refine ⟨?_, rfl, by rw [Bool.or_assoc]⟩
   cases b.bad q <;> cases e.bd x fn q <;> cases e.sl x fn q <;> cases r.bd x fn q <;> cases r.sl x fn q <;> rfl
end
mutual
theorem Ex.wit_bad : ∀ (e : Ex) (deep : Nat) (b : Bas), e.chk x fn deep = 0 → (e.wit x fn b).bad q = (b.bad q || e.bd x fn q) ∧ (e.wit x fn b).sec q = (b.sec q || e.sl x fn q) ∧ (e.wit x fn b).has q = (b.has q || e.any2 q)
 | .mk op wd nm a, deep, b, h => by
   obtain ⟨h2, h3, h4⟩ := chk_shape h
   rw [Ex.wit]
   by_cases e2 : op = 2
   · subst e2
     obtain rfl := h2 rfl
     rw [if_pos rfl, Ex.bd, Ex.sl, Ex.any2, if_pos rfl]
     simp only [Exs.bd, Exs.sl, Exs.any2, Bas.bad, Bas.sec, Bas.has, wi_any]
     refine ⟨by simp, by rw [Bool.or_assoc], ?_⟩
     cases b.words.any q <;> cases b.places.any q <;> cases q nm <;> rfl
   · rw [if_neg e2]
     by_cases e3 : op = 3
     · subst e3
       obtain ⟨e, rfl⟩ := h3 rfl
       obtain ⟨g1, _⟩ := Exs.chk_cons h4
       obtain ⟨i1, i2, i3⟩ := Ex.plc_bad q e (deep + 1) { b with secret := b.secret || secB x fn nm } g1
       rw [if_pos rfl, Exs.plc0, i1, i2, i3, Ex.bd, Ex.sl, Ex.any2, if_neg (by decide), if_pos rfl]
       simp only [Exs.bd, Exs.sl, Exs.any2, Bas.bad, Bas.sec, Bas.has]
       refine ⟨?_, ?_, by simp⟩
       · cases b.refused <;> cases b.places.any q <;> cases e.bd x fn q <;> cases e.sl x fn q <;> rfl
       · cases b.secret <;> cases b.words.any q <;> cases secB x fn nm <;> rfl
     · rw [if_neg e3, Ex.bd, Ex.sl, Ex.any2, if_neg e2, if_neg e3]
       obtain ⟨i1, i2, i3⟩ := Exs.wit_bad a (deep + 1) b h4
       rw [i1, i2, i3]
       simp [e2, e3]
theorem Exs.wit_bad : ∀ (l : Exs) (deep : Nat) (b : Bas), l.chk x fn deep = 0 → (l.wit x fn b).bad q = (b.bad q || l.bd x fn q) ∧ (l.wit x fn b).sec q = (b.sec q || l.sl x fn q) ∧ (l.wit x fn b).has q = (b.has q || l.any2 q)
 | .nil, _, b, _ => by rw [Exs.wit, Exs.bd, Exs.sl, Exs.any2]; simp
 | .cons e r, deep, b, h => by
   obtain ⟨h1, h2⟩ := Exs.chk_cons h
   obtain ⟨i1, i2, i3⟩ := Ex.wit_bad e deep b h1
   obtain ⟨j1, j2, j3⟩ := Exs.wit_bad r deep (e.wit x fn b) h2
   rw [Exs.wit, j1, j2, j3, i1, i2, i3, Exs.bd, Exs.sl, Exs.any2]
   exact ⟨by rw [Bool.or_assoc], by rw [Bool.or_assoc], by rw [Bool.or_assoc]⟩
end
end
theorem lev_doc {x : Prg} {fn : Fnc} {e : Ex} {deep : Nat} (T : List (List UInt8)) (h : e.chk x fn deep = 0) : e.lev x fn T = if e.bd x fn (mem T) then none else some (e.sl x fn (mem T)) := by
 obtain ⟨h1, h2, _⟩ := Ex.wit_bad (mem T) e deep bas0 h
 have h1' : (e.bas x fn).bad (mem T) = e.bd x fn (mem T) := by unfold Ex.bas; rw [h1]; rfl
 have h2' : (e.bas x fn).sec (mem T) = e.sl x fn (mem T) := by unfold Ex.bas; rw [h2]; rfl
 unfold Ex.lev Bas.lev
 rw [← h1', ← h2']
 unfold Bas.bad Bas.sec
 cases (e.bas x fn).refused <;> cases (e.bas x fn).places.any (mem T) <;> rfl
theorem has_any2 {x : Prg} {fn : Fnc} {e : Ex} {deep : Nat} (q : List UInt8 → Bool) (h : e.chk x fn deep = 0) : (e.bas x fn).has q = e.any2 q := by
 obtain ⟨_, _, h3⟩ := Ex.wit_bad q e deep bas0 h
 unfold Ex.bas; rw [h3]; rfl

section
variable {x : Prg} {fn : Fnc} {g h : List UInt8 → Bool}
mutual
theorem Ex.sl_congr : ∀ (e : Ex), e.any2 (fun s => g s != h s) = false → e.sl x fn g = e.sl x fn h ∧ e.bd x fn g = e.bd x fn h
 | .mk op wd nm a, hh => by
   rw [Ex.any2, Bool.or_eq_false_iff] at hh
   obtain ⟨h1, h2⟩ := Exs.sl_congr a hh.2
   rw [Ex.sl, Ex.sl, Ex.bd, Ex.bd, h1, h2]
   by_cases e2 : op = 2
   · have := hh.1
     simp only [e2, decide_true, Bool.true_and, bne_eq_false_iff_eq] at this
     rw [if_pos e2, if_pos e2, this]
     exact ⟨rfl, rfl⟩
   · rw [if_neg e2, if_neg e2]
     exact ⟨rfl, rfl⟩
theorem Exs.sl_congr : ∀ (l : Exs), l.any2 (fun s => g s != h s) = false → l.sl x fn g = l.sl x fn h ∧ l.bd x fn g = l.bd x fn h
 | .nil, _ => ⟨by rw [Exs.sl, Exs.sl], by rw [Exs.bd, Exs.bd]⟩
 | .cons e r, hh => by
   rw [Exs.any2, Bool.or_eq_false_iff] at hh
   obtain ⟨h1, h2⟩ := Ex.sl_congr e hh.1
   obtain ⟨h3, h4⟩ := Exs.sl_congr r hh.2
   rw [Exs.sl, Exs.sl, Exs.bd, Exs.bd, h1, h2, h3, h4]
   exact ⟨rfl, rfl⟩
end
end
/- An expression alone in a function: why it may not be. -/
open Go.RowKit

theorem seq_zero' (a : Nat) : seq a 0 = a := by unfold seq; split <;> omega
def aloneF (fn : Fnc) (e : Ex) : Fnc := { fn with body := .cons (mkS 3 [] e ex0 .nil .nil) .nil }
def aloneP (x : Prg) (fn : Fnc) (e : Ex) : Prg := ⟨x.regs, [aloneF fn e]⟩
section
variable (x : Prg) (fn : Fnc) (e0 : Ex)
mutual
theorem Ex.chk_alone : ∀ (e : Ex) (deep : Nat), e.chk (aloneP x fn e0) (aloneF fn e0) deep = e.chk x fn deep
 | .mk op wd nm a, deep => by
   rw [Ex.chk, Ex.chk, Exs.chk_alone a (deep + 1)]; rfl
theorem Exs.chk_alone : ∀ (l : Exs) (deep : Nat), l.chk (aloneP x fn e0) (aloneF fn e0) deep = l.chk x fn deep
 | .nil, _ => by rw [Exs.chk, Exs.chk]
 | .cons e r, deep => by rw [Exs.chk, Exs.chk, Ex.chk_alone e deep, Exs.chk_alone r deep]
end
end
theorem alone_own (e : Ex) : ownP (mkS 3 [] e ex0 .nil .nil) = true := by
 unfold ownP ownK mkS
 simp [St.kind, St.name, St.names, St.a, St.args, St.low, St.high, ex0, Ex.op, Ex.word, Ex.name, Ex.args, Exs.len, zexB, zstB]
theorem alone_body (x : Prg) (fn : Fnc) (e : Ex) : bodyR (aloneP x fn e) 0 (aloneF fn e) = e.chk x fn 1 := by
 unfold bodyR
 show (Sts.cons (mkS 3 [] e ex0 .nil .nil) .nil).chk _ _ _ _ _ _ = _
 rw [Sts.chk, Sts.chk, seq_zero', St.chk_eq, alone_own]
 unfold partsR restR headS
 simp only [mkS, St.kind, St.e, St.a, St.args, St.body, St.els]
 rw [Exs.chk, Sts.chk]
 simp only [ask, seq, if_true]
 have h := Ex.chk_alone x fn e e 1
 split <;> simp_all
theorem alone_few {x : Prg} {fn : Fnc} {e : Ex} {i : Nat} (h : x.few = true) (hi : x.fns[i]? = some fn) (hs : e.size ≤ 3000) : (aloneP x fn e).few = true := by
 have hmem := List.mem_of_getElem? hi
 simp only [Prg.few, fewB, Bool.and_eq_true, decide_eq_true_eq] at h ⊢
 obtain ⟨⟨⟨⟨h1, h2⟩, h3⟩, h4⟩, h5⟩ := h
 have hf := List.all_eq_true.1 h4 fn hmem
 refine ⟨⟨⟨⟨h1, by simp [aloneP]⟩, h3⟩, ?_⟩, ?_⟩
 · simp only [aloneP, List.all_cons, List.all_nil, Bool.and_true]
   exact hf
 · have ht : (aloneP x fn e).total ≤ 3001 := by
     show sumSc [aloneF fn e] ≤ 3001
     rw [sumSc, sumSc]
     show (Sts.cons (mkS 3 [] e ex0 .nil .nil) .nil).sc 1 + 0 ≤ 3001
     rw [Sts.sc_cons (by decide)]
     have ha : (mkS 3 [] e ex0 .nil .nil).own 1 = ex0.oc 1 + e.oc 1 + Exs.nil.oc 1 := rfl
     have h0 : ex0.oc 1 = 0 := by unfold Ex.oc; rw [if_pos (by rfl)]
     have h1 : e.oc 1 ≤ e.size := by unfold Ex.oc; split; omega; exact e.wc_le 1
     have h2 : Exs.nil.oc 1 = 0 := by rw [Exs.oc]
     have h3 : (mkS 3 [] e ex0 .nil .nil).body.sc (1 + 1) = 0 := by show Sts.nil.sc _ = 0; rw [Sts.sc]
     have h4 : (mkS 3 [] e ex0 .nil .nil).els.sc (1 + 1) = 0 := by show Sts.nil.sc _ = 0; rw [Sts.sc]
     have h5 : Sts.nil.sc 1 = 0 := by rw [Sts.sc]
     omega
   unfold cap
   split <;> omega
theorem may_alone {x : Prg} {fn : Fnc} {e : Ex} {i : Nat} (hm : mayR x = 0) (hi : x.fns[i]? = some fn) (hs : e.size ≤ 3000) : mayR (aloneP x fn e) = e.chk x fn 1 := by
 obtain ⟨h1, h2, h3, h4, h5⟩ := (may_zero x).1 hm
 have hmem := List.mem_of_getElem? hi
 obtain ⟨d, r, hfe⟩ := List.append_of_mem hmem
 have g1 := alone_few h1 hi hs
 have g2 : namesB (aloneP x fn e) = true := by
   unfold namesB at h2 ⊢
   rw [Bool.and_eq_true] at h2 ⊢
   refine ⟨?_, ?_⟩
   · have h6 := h2.1
     rw [hfe] at h6
     have e1 : rnm x.regs ++ fnm (d ++ fn :: r) = (rnm x.regs ++ fnm d) ++ fn.name :: fnm r := by simp [fnm]
     rw [e1] at h6
     show newB nz (rnm x.regs ++ [fn.name]) = true
     rw [newB_one, Bool.and_eq_true]
     refine ⟨newB_pre h2.1, ?_⟩
     cases hh : nameB fn.name && !((rnm x.regs ++ fnm d).any (fun y => y == fn.name)) with
     | false => rw [newB_cut hh] at h6; cases h6
     | true =>
       rw [Bool.and_eq_true, Bool.not_eq_true', List.any_append, Bool.or_eq_false_iff] at hh
       rw [hh.1, hh.2.1]; rfl
   · have h6 := List.all_eq_true.1 h2.2 fn hmem
     simp only [aloneP, List.all_cons, List.all_nil, Bool.and_true]
     exact h6
 have g4 : (aloneP x fn e).fns.all Fnc.varsB = true := by
   have h6 := List.all_eq_true.1 h4 fn hmem
   simp only [aloneP, List.all_cons, List.all_nil, Bool.and_true]
   exact h6
 unfold mayR
 rw [g1, g2, g4, show rgsAt [] (aloneP x fn e).regs = true from h3]
 show seq 0 (seq 0 (seq 0 (seq 0 (bodiesR (aloneP x fn e) 0 [aloneF fn e])))) = _
 rw [bodiesR, bodiesR, seq_zero', alone_body]
 rfl
/- The document's state of a function that is gone through. -/
open Go.RowKit

structure Cs (w : World) (M g : Nat) (x : Prg) (s : PrgP) (i : Nat) (v : Value) (L : List Bool) (er gn : Nat) : Prop where
 k : w.heap[g]? = some (.cells #[.slice s.p x.regs.length s.c, .slice s.q x.fns.length s.d, .int .i64 (i : Int), v, .int .i64 (er : Int), .int .i64 (gn : Int)] 55 (0, 0))
 r : w.ownsRow M 4 1 v L.length (boolCells L)
theorem own_fwb {S : Nat → Prop} {w w' : World} {M n : Nat} {v : Value} {cs : List Value} (h : w.ownsRow M 4 1 v n cs) (hF : Fw S w w') (hs : ∀ k, S k → ∀ cur, w.heap[k]? ≠ some (.cells cur 4 (0, 0))) : w'.ownsRow M 4 1 v n cs := by
 refine ⟨h.1, ?_⟩
 rcases h.2 with hn | ⟨q, cap, cur, rfl, hb, hk, hr⟩
 · exact .inl hn
 · exact .inr ⟨q, cap, cur, rfl, hb, (hF.block q (lt_blk hk) (fun e => hs q e _ hk)).trans hk, hr⟩
theorem Cs.later {w w' : World} {M g : Nat} {x : Prg} {s : PrgP} {i : Nat} {v : Value} {L : List Bool} {er gn : Nat} (h : Cs w M g x s i v L er gn) (hB : Below w.heap.size w w') : Cs w' M g x s i v L er gn :=
 ⟨(hB.block _ (lt_blk h.k)).trans h.k, own_fwb h.r (Fw.of_below (S := fun _ => False) hB) (fun _ e => e.elim)⟩
theorem chk_bool {c c' : Array Value} {q : Nat × Nat} : Obj.cells c 55 q ≠ Obj.cells c' 4 (0, 0) := fun e => by injection e with _ e _; exact absurd e (by decide)
theorem Cs.row {w w' : World} {M g : Nat} {x : Prg} {s : PrgP} {i : Nat} {v : Value} {L : List Bool} {er gn er' gn' : Nat} (h : Cs w M g x s i v L er gn) (hF : Fw (fun k => k = g) w w')
   (hk : w'.heap[g]? = some (.cells #[.slice s.p x.regs.length s.c, .slice s.q x.fns.length s.d, .int .i64 (i : Int), v, .int .i64 (er' : Int), .int .i64 (gn' : Int)] 55 (0, 0))) : Cs w' M g x s i v L er' gn' :=
 ⟨hk, own_fwb h.r hF (fun k e cur hc => by subst e; rw [h.k] at hc; injection hc with hc; exact chk_bool hc)⟩
def erN (er : Nat) (b : Bool) : Nat := if er = 0 then (if b then 10 else 0) else er
theorem erN_false (er : Nat) : erN er false = er := by unfold erN; split <;> simp_all
theorem erN_or (er : Nat) (a b : Bool) : erN (erN er a) b = erN er (a || b) := by unfold erN; cases a <;> cases b <;> by_cases h : er = 0 <;> simp [h]
set_option maxHeartbeats 1600000 in
theorem fail_any (e er gn g : Nat) (c0 c1 c2 c3 : Value) (w : World) (hk : w.heap[g]? = some (.cells #[c0, c1, c2, c3, .int .i64 (er : Int), .int .i64 (gn : Int)] 55 (0, 0))) :
   Calls Tryz.prog 45 #[.pointer (some ⟨g, 0, none⟩), .int .i64 (e : Int)] w fun z w' => z = .returned (.tuple #[]) ∧ w'.heap[g]? = some (.cells #[c0, c1, c2, c3, .int .i64 ((if er = 0 then e else er : Nat) : Int), .int .i64 (gn : Int)] 55 (0, 0)) ∧ Fw (fun k => k = g) w w' := by
 have c4 : w.cell? ⟨g, 4, none⟩ = some (.int .i64 (er : Int)) := cell_blk hk rfl
 have HK := Lib.hid hk
 clear hk
 by_cases he : er = 0
 · subst he
   replace c4 : w.cell? ⟨g, 4, none⟩ = some (.int .i64 0) := c4
   have hz4 : w.frozen? ⟨g, 4, none⟩ = false := by simp [World.frozen?, HK.out]
   go_enter Tryz.func45, Tryz.ntmps45
   go_wp2_with fail
   go_end0
   exact ⟨rfl, by rw [setc HK.out]; rfl, Fw.of_but ((But.refl g w).set 4 _)⟩
 · have hne : ((er : Int) == 0) = false := by simp; omega
   go_enter Tryz.func45, Tryz.ntmps45
   go_wp2_with fail
   go_end0
   exact ⟨rfl, by first | exact HK.out | (rw [if_neg he]; exact HK.out), Fw.refl _ _⟩
theorem rowk {α : Type} {A : α → Nat → Nat → Prop} {N k : Nat} {l d r : List α} {y : α} {p : Option Addr} (h : RowIn N A k l p) (e : l = d ++ y :: r) : ∃ b o, p = some ⟨b, o, none⟩ ∧ b < N ∧ A y b (o + d.length * k) := by
 rcases h.2 with h0 | ⟨b, o, hp, hb, hr⟩
 · rw [e] at h0; simp at h0
 · exact ⟨b, o, hp, hb, Row.get (i := d.length) (x := y) hr (by rw [e]; simp)⟩
theorem findJ3 {x : Prg} {fn : Fnc} {nm : List UInt8} {j : Nat} (h : FindJ x fn nm j) (hk : findK x fn nm = 3) : ∃ d v r, x.regs = d ++ v :: r ∧ d.length = j ∧ secB x fn nm = v.secret := by
 rcases h with ⟨d, v, r, e1, e2, e3, e4⟩ | ⟨d, v, r, e1, e2, e3⟩ | h0
 · unfold findK at hk; rw [e4] at hk; simp only [if_true, Bool.false_eq_true, if_false] at hk; split at hk <;> cases hk
 · exact ⟨d, v, r, e1, e2, by unfold secB; rw [e3]⟩
 · rw [h0] at hk; cases hk
theorem findJ1 {x : Prg} {fn : Fnc} {nm : List UInt8} {j : Nat} (h : FindJ x fn nm j) (hk : findK x fn nm = 1 ∨ findK x fn nm = 2) : ∃ d v r, fn.params ++ fn.vars = d ++ v :: r ∧ d.length = j ∧ named nm v = true ∧ found x fn nm = (v, true, false) := by
 rcases h with ⟨d, v, r, e1, e2, e3, e4⟩ | ⟨d, v, r, e1, e2, e3⟩ | h0
 · exact ⟨d, v, r, e1, e2, e3, e4⟩
 · unfold findK at hk; rw [e3] at hk; simp at hk
 · rw [h0] at hk; rcases hk with h | h <;> cases h
theorem findJ2 {x : Prg} {fn : Fnc} {nm : List UInt8} {j : Nat} (h : FindJ x fn nm j) (hk : findK x fn nm = 2) (hp : fn.params.all Vr.par = true) : ∃ d v r, fn.vars = d ++ v :: r ∧ fn.params.length + d.length = j ∧ secB x fn nm = v.secret := by
 obtain ⟨d, v, r, e1, e2, e3, e4⟩ := findJ1 h (.inr hk)
 have hv : (v.kind == 1) = false := by
   unfold findK at hk; rw [e4] at hk; simp only [if_true, Bool.false_eq_true, if_false] at hk
   cases hh : v.kind == 1 with
   | false => rfl
   | true => rw [hh] at hk; cases hk
 have hs : secB x fn nm = v.secret := by unfold secB; rw [e4]
 rcases List.append_eq_append_iff.1 e1 with ⟨a, h1, h2⟩ | ⟨a, h1, h2⟩
 · exact ⟨a, v, r, h2, by rw [← e2, h1, List.length_append], hs⟩
 · cases a with
   | nil => exact ⟨[], v, r, by simpa using h2.symm, by rw [← e2, h1]; simp, hs⟩
   | cons y a =>
     rw [List.cons_append] at h2
     obtain ⟨rfl, _⟩ := List.cons.inj h2
     have := List.all_eq_true.1 hp v (by rw [h1]; simp)
     unfold Vr.par at this
     rw [hv] at this
     cases this
set_option maxRecDepth 100000 in
set_option maxHeartbeats 12800000 in
theorem rarr_any (x : Prg) (s : PrgP) (i : Nat) (fn : Fnc) (nm : List UInt8) (g M N : Nat) (v : Value) (L : List Bool) (er gn : Nat) (w : World) (h : x.Ok w N s.p s.q) (hN : N ≤ w.heap.size) (hi : x.fns[i]? = some fn) (hbig : fn.params.length + fn.vars.length ≤ 4000000) (hc : Cs w M g x s i v L er gn) (ha : arrayR x fn nm = 0) (hp : fn.params.all Vr.par = true) :
   Calls Tryz.prog 46 #[.pointer (some ⟨g, 0, none⟩), .string (str nm)] w fun z w' => z = .returned (.bool (secB x fn nm)) ∧ Below w.heap.size w w' := by
 obtain ⟨p, q, c, d⟩ := s
 have HK := Lib.hid hc.k
 have HF := Lib.hid (fun (W : World) (hB : Below w.heap.size w W) => rfind_any x ⟨p, q, c, d⟩ i fn nm N W (h.later (hB.mono hN) (Nat.le_refl N)) (Nat.le_trans hN hB.size) hi hbig)
 have HX := Lib.hid (fun (W : World) (hB : Below w.heap.size w W) => h.later (hB.mono hN) (Nat.le_refl N))
 have HP := Lib.hid hp
 have HS := Lib.hid (fun (W : World) (hB : Below w.heap.size w W) => show W.cell? ⟨g, 0, none⟩ = some (.slice p x.regs.length c) ∧ W.cell? ⟨g, 1, none⟩ = some (.slice q x.fns.length d) ∧ W.cell? ⟨g, 2, none⟩ = some (.int .i64 (i : Int)) from
   have e := (hB.block _ (lt_blk HK.out)).trans HK.out
   ⟨cell_blk e rfl, cell_blk e rfl, cell_blk e rfl⟩)
 have HI := Lib.hid hi
 have HKk := Lib.hid (show findK x fn nm = 3 ∨ findK x fn nm = 2 by
   rcases findK_word x fn nm with ⟨_, _, h2⟩ | ⟨_, _, h2⟩ | ⟨h1 | h1, _, _⟩
   · rw [h2] at ha; cases ha
   · rw [h2] at ha; cases ha
   · exact .inr h1
   · exact .inl h1)
 obtain ⟨R, hR⟩ : ∃ R, R = secB x fn nm := ⟨_, rfl⟩
 rw [← hR]
 have HR := Lib.hid hR
 obtain ⟨K, hK⟩ : ∃ K, K = findK x fn nm := ⟨_, rfl⟩
 unfold Prg.v at HF
 rw [← hK] at HF
 have HKe := Lib.hid hK
 have hX : Below w.heap.size w w.drew := (Below.refl _ _).drew
 have hlen : x.fns.length ≤ 140737488355328 := h.2.1
 have hlen2 : x.regs.length ≤ 140737488355328 := h.1.1
 clear h hN hi hbig hc ha hp hR hK
 rcases HKk.out with hk | hk
 · obtain rfl : K = 3 := HKe.out.trans hk
   have HK3 := Lib.hid hk
   clear hk
   go_enter Tryz.func46, Tryz.ntmps46
   go_upto_region 1 with fail
   refine wp_region_held_drew (S := fun W => W.cell? ⟨g, 0, none⟩ = some (.slice p x.regs.length c) ∧ W.cell? ⟨g, 1, none⟩ = some (.slice q x.fns.length d) ∧ W.cell? ⟨g, 2, none⟩ = some (.int .i64 (i : Int))) (by kernel_rfl) ?_ (fun hHeld => ?_)
   · exact HS.out _ hX
   refine tq 0 ?_
   refine tq 1 ?_
   refine tq 2 ?_
   refine tq 3 ?_
   refine tq 4 ?_
   refine tq 5 ?_
   refine tq 6 ?_
   refine tq 7 ?_
   refine tq 8 ?_
   refine wpAnyH_ready (rs := [9]) (by kernel_rfl) (by simp) ?_
   refine rdy rfl (fun K hK => ?_) AllReadyH.nil
   go_simp
   refine (HF.out _ hX).mono ?_
   rintro z w5 ⟨⟨j, rfl, hj⟩, hB5⟩
   have HJ := Lib.hid hj
   have hX5 := hX.trans (hB5.mono hX.size)
   clear hB5 hj
   refine hK.out _ _ ?_ (fun hHeldN => ?_)
   · exact HS.out _ hX5
   clear hK K hHeld
   have hHeld := hHeldN
   clear hHeldN
   try simp only [Act.put, List.setIfInBounds_toArray, List.set_cons_zero, List.set_cons_succ]
   refine tq 10 ?_
   refine tq 11 ?_
   refine tq 12 ?_
   refine tq 13 ?_
   refine tq 14 ?_
   refine wpAnyH_done (by kernel_rfl) ?_ _
   clear hHeld
   obtain ⟨d1, v1, r1, hE, hl, hs⟩ := findJ3 HJ.out HK3.out
   obtain ⟨bp, op, hpe, hbp, hv⟩ := rowk (HX.out w5 hX5).1 hE
   dsimp only at hpe
   subst hpe
   obtain ⟨_, _, _, v3⟩ := hv
   rw [hl] at v3
   obtain ⟨g0, g1, g2⟩ := HS.out w5 hX5
   have hlt : j < x.regs.length := by rw [← hl, hE]; simp
   have hjm : j ≤ 140737488355328 := by omega
   have HY := Lib.hid hX5
   have HRv := Lib.hid (HR.out.trans hs)
   clear hX5 hE hl hs hbp
   go_wp2_with fail
   go_ret
   exact ⟨ret_bool HRv.out.symm, HY.out⟩
 · obtain rfl : K = 2 := HKe.out.trans hk
   have HK2 := Lib.hid hk
   clear hk
   go_enter Tryz.func46, Tryz.ntmps46
   go_upto_region 1 with fail
   refine wp_region_held_drew (S := fun W => W.cell? ⟨g, 0, none⟩ = some (.slice p x.regs.length c) ∧ W.cell? ⟨g, 1, none⟩ = some (.slice q x.fns.length d) ∧ W.cell? ⟨g, 2, none⟩ = some (.int .i64 (i : Int))) (by kernel_rfl) ?_ (fun hHeld => ?_)
   · exact HS.out _ hX
   refine tq 0 ?_
   refine tq 1 ?_
   refine tq 2 ?_
   refine tq 3 ?_
   refine tq 4 ?_
   refine tq 5 ?_
   refine tq 6 ?_
   refine tq 7 ?_
   refine tq 8 ?_
   refine wpAnyH_ready (rs := [9]) (by kernel_rfl) (by simp) ?_
   refine rdy rfl (fun K hK => ?_) AllReadyH.nil
   go_simp
   refine (HF.out _ hX).mono ?_
   rintro z w5 ⟨⟨j, rfl, hj⟩, hB5⟩
   have HJ := Lib.hid hj
   have hX5 := hX.trans (hB5.mono hX.size)
   clear hB5 hj
   refine hK.out _ _ ?_ (fun hHeldN => ?_)
   · exact HS.out _ hX5
   clear hK K hHeld
   have hHeld := hHeldN
   clear hHeldN
   try simp only [Act.put, List.setIfInBounds_toArray, List.set_cons_zero, List.set_cons_succ]
   refine tq 10 ?_
   refine tq 11 ?_
   refine tq 12 ?_
   refine tq 13 ?_
   refine tq 14 ?_
   refine wpAnyH_done (by kernel_rfl) ?_ _
   clear hHeld
   obtain ⟨d1, v1, r1, hE, hl, hs⟩ := findJ2 HJ.out HK2.out HP.out
   obtain ⟨ds, rs, hfe, hfl⟩ : ∃ ds rs, x.fns = ds ++ fn :: rs ∧ ds.length = i := by
     have h1 := List.getElem?_eq_some_iff.1 HI.out
     obtain ⟨h1, h2⟩ := h1
     exact ⟨x.fns.take i, x.fns.drop (i + 1), by rw [← h2, List.getElem_cons_drop, List.take_append_drop], by rw [List.length_take]; omega⟩
   obtain ⟨bq, oq, hqe, hbq, hv⟩ := rowk (HX.out w5 hX5).2 hfe
   dsimp only at hqe
   subst hqe
   obtain ⟨⟨pp, pv, pr, pb, cp, cv, cr, cb⟩, e0, e1, e2, e3, e4, hok⟩ := Fnc.At.all hv
   obtain ⟨bv, ov, hve, hbv, hv2⟩ := rowk hok.2.1 hE
   dsimp only at hve
   subst hve
   obtain ⟨_, _, _, v3⟩ := hv2
   rw [hfl] at e1 e2
   have hilt : i < x.fns.length := by rw [← hfl, hfe]; simp
   have hvl : d1.length < fn.vars.length := by rw [hE]; simp
   have hvm : fn.vars.length ≤ 140737488355328 := hok.2.1.1
   have hpm : fn.params.length ≤ 140737488355328 := hok.1.1
   have hws : IntKind.i64.wrap ((j : Int) - (fn.params.length : Int)) = ((d1.length : Nat) : Int) := by rw [← hl]; simp [IntKind.wrap, IntKind.bits, IntKind.signed]; omega
   have HS4 := Lib.hid (fun (W : World) (hB : Below w5.heap.size w5 W) => show W.cell? ⟨g, 1, none⟩ = some (.slice (some ⟨bq, oq, none⟩) x.fns.length d) ∧ W.cell? ⟨g, 2, none⟩ = some (.int .i64 (i : Int)) ∧ W.cell? ⟨bq, oq + i * 5 + 2, none⟩ = some (.slice (some ⟨bv, ov, none⟩) fn.vars.length cv) ∧ W.cell? ⟨bq, oq + i * 5 + 1, none⟩ = some (.slice pp fn.params.length cp) ∧ W.cell? ⟨bv, ov + d1.length * 4 + 3, none⟩ = some (.bool v1.secret) from
     ⟨(HS.out W (hX5.trans (hB.mono hX5.size))).2.1, (HS.out W (hX5.trans (hB.mono hX5.size))).2.2, (hB.cell (p := ⟨bq, oq + i * 5 + 2, none⟩) (World.block_lt_of_cell? _ _ e2)).trans e2, (hB.cell (p := ⟨bq, oq + i * 5 + 1, none⟩) (World.block_lt_of_cell? _ _ e1)).trans e1, (hB.cell (p := ⟨bv, ov + d1.length * 4 + 3, none⟩) (World.block_lt_of_cell? _ _ v3)).trans v3⟩)
   have hX6 : Below w5.heap.size w5 w5.drew := (Below.refl _ _).drew
   have HY := Lib.hid (hX5.trans (hX6.mono hX5.size))
   have HRv := Lib.hid (HR.out.trans hs)
   clear hX5 hs hbq hbv e0 e1 e2 e3 e4 v3 hok hfe hfl hE hl hv HX HF HK HKk
   go_upto_region 4 with fail
   refine wp_region_held_drew (S := fun W => W.cell? ⟨g, 1, none⟩ = some (.slice (some ⟨bq, oq, none⟩) x.fns.length d) ∧ W.cell? ⟨g, 2, none⟩ = some (.int .i64 (i : Int)) ∧ W.cell? ⟨bq, oq + i * 5 + 2, none⟩ = some (.slice (some ⟨bv, ov, none⟩) fn.vars.length cv) ∧ W.cell? ⟨bq, oq + i * 5 + 1, none⟩ = some (.slice pp fn.params.length cp) ∧ W.cell? ⟨bv, ov + d1.length * 4 + 3, none⟩ = some (.bool v1.secret)) (by kernel_rfl) ?_ (fun hHeld => ?_)
   · exact HS4.out _ hX6
   refine tq 0 ?_
   refine tq 1 ?_
   refine tq 2 ?_
   refine tq 3 ?_
   refine tq 4 ?_
   refine tq 5 ?_
   refine tq 6 ?_
   refine tq 7 ?_
   refine tq 8 ?_
   refine tq 9 ?_
   refine tq 10 ?_
   refine tq 11 ?_
   refine tq 12 ?_
   refine tq 13 ?_
   refine tq 14 ?_
   refine tq 15 ?_
   refine tq 16 ?_
   refine tq 17 ?_
   refine tq 18 ?_
   refine tq 19 ?_
   refine tq 20 ?_
   refine tq 21 ?_
   refine tq 22 ?_
   refine tq 23 ?_
   refine tq 24 ?_
   refine tq 25 ?_
   refine tk 26 (.int .i64 ((d1.length : Nat) : Int)) rfl (.inl ⟨by rfl, ?_⟩) ?_
   · (intro w hSw; (try dsimp only at hSw); go_simp)
   try simp only [Act.put, List.setIfInBounds_toArray, List.set_cons_zero, List.set_cons_succ]
   refine tq 27 ?_
   refine tq 28 ?_
   refine tq 29 ?_
   refine tq 30 ?_
   refine wpAnyH_done (by kernel_rfl) ?_ _
   clear hHeld
   go_wp2_with fail
   go_ret
   exact ⟨ret_bool HRv.out.symm, HY.out⟩
/- An expression alone in a function: the program's. -/
open Go.RowKit

set_option maxRecDepth 100000 in
set_option maxHeartbeats 12800000 in
theorem mayStand_any (x : Prg) (s : PrgP) (i : Nat) (fn : Fnc) (e : Ex) (pe : Option Addr) (ce N : Nat) (w : World) (h : x.Ok w N s.p s.q) (hN : N ≤ w.heap.size) (hi : x.fns[i]? = some fn) (he : e.Ok w N pe) (hc : x.regs.length ≤ s.c) :
   Calls Tryz.prog 36 #[x.v s, .int .i64 (i : Int), e.val pe ce] w fun z w' => z = .returned (.int .i64 (mayR (aloneP x fn e) : Int)) ∧ Below w.heap.size w w' := by
 obtain ⟨p, q, c, d⟩ := s
 obtain ⟨ds, rs, hfe, hfl⟩ : ∃ ds rs, x.fns = ds ++ fn :: rs ∧ ds.length = i := by
   obtain ⟨h1, h2⟩ := List.getElem?_eq_some_iff.1 hi
   exact ⟨x.fns.take i, x.fns.drop (i + 1), by rw [← h2, List.getElem_cons_drop, List.take_append_drop], by rw [List.length_take]; omega⟩
 obtain ⟨bq, oq, hqe, hbq, hv⟩ := rowk h.2 hfe
 dsimp only at hqe
 subst hqe
 rw [hfl] at hv
 obtain ⟨⟨pp, pv, pr, pb, cp, cv, cr, cb⟩, e0, e1, e2, e3, e4, hok⟩ := Fnc.At.all hv
 have hilt : i < x.fns.length := (List.getElem?_eq_some_iff.1 hi).1
 obtain ⟨w2, hw2, k0, k1, hB2, hz2⟩ := two_alloc w (.cells #[.slice p x.regs.length c, .slice (some ⟨bq, oq, none⟩) x.fns.length d] 25) (.cells #[.int .i64 e.op, .int .u64 (e.word : Int), .string (str e.name), .slice pe e.args.len ce] 40)
 obtain ⟨w5, hw5, j0, j1, j2, hB5, hz5⟩ := three w2 (.cells #[.string (str fn.name), .slice pp fn.params.length cp, .slice pv fn.vars.length cv, .slice pr fn.rets.length cr, .slice (some ⟨w2.heap.size + 1, 0, none⟩) 1 1] 48) (.cells #[.int .i64 3, .string (str []), .slice none 0 0, .int .i64 e.op, .int .u64 (e.word : Int), .string (str e.name), .slice pe e.args.len ce, .int .i64 0, .int .u64 0, .string (str []), .slice none 0 0, .slice none 0 0, .int .u64 0, .int .u64 0, .slice none 0 0, .slice none 0 0] 45) (.cells #[.string (str fn.name), .slice pp fn.params.length cp, .slice pv fn.vars.length cv, .slice pr fn.rets.length cr, .slice (some ⟨w2.heap.size + 1, 0, none⟩) 1 1] 48)
 have hbw : bq < w.heap.size := by omega
 have hB25 : Below w.heap.size w w5 := hB2.trans (hB5.mono (by omega))
 have hN5 : w5.heap.size = w2.heap.size + 3 := hz5
 have hnn : N ≤ w2.heap.size + 3 := by omega
 have hwe : e.word < 18446744073709551616 := he.2
 have hbd : (aloneF fn e).body.In w5 (w2.heap.size + 3) (some ⟨w2.heap.size + 1, 0, none⟩) :=
   ⟨show 1 ≤ 140737488355328 by decide, .inr ⟨w2.heap.size + 1, 0, rfl, by omega, st_at (e := e) (a := ex0) (g := .nil) (bd := .nil) (pa := none) (pg := none) (pb := none) (ca := 0) (cg := 0) (cb := 0) j1 0 rfl hwe (by decide) (he.1.later (hB25.mono hN) hnn) exs0 exs0 sts0, trivial⟩⟩
 have c0 := cell_blk j2 (j := 0) rfl
 have c1 := cell_blk j2 (j := 1) rfl
 have c2 := cell_blk j2 (j := 2) rfl
 have c3 := cell_blk j2 (j := 3) rfl
 have c4 := cell_blk j2 (j := 4) rfl
 have hx : (aloneP x fn e).Ok w5 (w2.heap.size + 3) p (some ⟨w2.heap.size + 1 + 1, 0, none⟩) := by
   have hh := h.later (hB25.mono hN) (Nat.le_refl N)
   refine ⟨hh.1.imp hnn (fun _ _ _ _ a => a), show 1 ≤ 140737488355328 by decide, .inr ⟨w2.heap.size + 1 + 1, 0, rfl, by omega, ⟨?_, trivial⟩⟩⟩
   have hk := hok.later (hB25.mono hN) hnn
   exact ⟨c0, ⟨_, _, c1, hk.1⟩, ⟨_, _, c2, hk.2.1⟩, ⟨_, _, c3, hk.2.2.1⟩, ⟨_, _, c4, hbd⟩⟩
 have HM := Lib.hid (may_any (aloneP x fn e) ⟨p, some ⟨w2.heap.size + 1 + 1, 0, none⟩, c, 1⟩ (w2.heap.size + 3) w5 hx (by omega) hc (Nat.le_refl 1))
 have g0 := (hB2.cell (p := ⟨bq, oq + i * 5, none⟩) hbw).trans e0
 have g1 := (hB2.cell (p := ⟨bq, oq + i * 5 + 1, none⟩) hbw).trans e1
 have g2 := (hB2.cell (p := ⟨bq, oq + i * 5 + 2, none⟩) hbw).trans e2
 have g3 := (hB2.cell (p := ⟨bq, oq + i * 5 + 3, none⟩) hbw).trans e3
 have g4 := (hB2.cell (p := ⟨bq, oq + i * 5 + 4, none⟩) hbw).trans e4
 have d0 : w2.cell? ⟨w.heap.size, 0, none⟩ = some (.slice p x.regs.length c) := cell_blk k0 rfl
 have d1 : w2.cell? ⟨w.heap.size, 1, none⟩ = some (.slice (some ⟨bq, oq, none⟩) x.fns.length d) := cell_blk k0 rfl
 have x0 : w2.cell? ⟨w.heap.size + 1, 0, none⟩ = some (.int .i64 e.op) := cell_blk k1 rfl
 have x1 : w2.cell? ⟨w.heap.size + 1, 1, none⟩ = some (.int .u64 (e.word : Int)) := cell_blk k1 rfl
 have x2 : w2.cell? ⟨w.heap.size + 1, 2, none⟩ = some (.string (str e.name)) := cell_blk k1 rfl
 have x3 : w2.cell? ⟨w.heap.size + 1, 3, none⟩ = some (.slice pe e.args.len ce) := cell_blk k1 rfl
 have hA : ∀ (o : Obj) (j : Nat), (w2.alloc o).cell? ⟨w.heap.size + 1, j, none⟩ = w2.cell? ⟨w.heap.size + 1, j, none⟩ := fun o j => ((Below.refl w2.heap.size w2).alloc (Nat.le_refl _) o).cell (p := ⟨w.heap.size + 1, j, none⟩) (lt_blk k1)
 have y0 := (hA (.cells #[.string (str fn.name), .slice pp fn.params.length cp, .slice pv fn.vars.length cv, .slice pr fn.rets.length cr, .slice pb fn.body.len cb] 48) 0).trans x0
 have y1 := (hA (.cells #[.string (str fn.name), .slice pp fn.params.length cp, .slice pv fn.vars.length cv, .slice pr fn.rets.length cr, .slice pb fn.body.len cb] 48) 1).trans x1
 have y2 := (hA (.cells #[.string (str fn.name), .slice pp fn.params.length cp, .slice pv fn.vars.length cv, .slice pr fn.rets.length cr, .slice pb fn.body.len cb] 48) 2).trans x2
 have y3 := (hA (.cells #[.string (str fn.name), .slice pp fn.params.length cp, .slice pv fn.vars.length cv, .slice pr fn.rets.length cr, .slice pb fn.body.len cb] 48) 3).trans x3
 have y4 : ((w2.alloc (.cells #[.string (str fn.name), .slice pp fn.params.length cp, .slice pv fn.vars.length cv, .slice pr fn.rets.length cr, .slice (some ⟨w2.heap.size + 1, 0, none⟩) 1 1] 48)).alloc (.cells #[.int .i64 3, .string { data := #[] }, .slice none 0 0, .int .i64 e.op, .int .u64 (e.word : Int), .string (str e.name), .slice pe e.args.len ce, .int .i64 0, .int .u64 0, .string { data := #[] }, .slice none 0 0, .slice none 0 0, .int .u64 0, .int .u64 0, .slice none 0 0, .slice none 0 0] 45)).cell? ⟨w.heap.size, 0, none⟩ = some (.slice p x.regs.length c) := ((((Below.refl w2.heap.size w2).alloc (Nat.le_refl _) _).alloc (by simp) _).cell (p := ⟨w.heap.size, 0, none⟩) (lt_blk k0)).trans d0
 clear hA
 have HW2 := Lib.hid hw2
 have HW5 := Lib.hid hw5
 have HB := Lib.hid hB25
 have hmf : x.fns.length ≤ 140737488355328 := h.2.1
 unfold Prg.v at HM ⊢
 unfold Ex.val
 dsimp only at HM ⊢
 clear h hN hi he hc hfe hfl hbq hv e0 e1 e2 e3 e4 hok k0 k1 hB2 hz2 hw2 hw5 j0 j1 j2 hB5 hz5 hB25 hN5 hnn hwe hbd c0 c1 c2 c3 c4 hx hbw
 go_enter Tryz.func36, Tryz.ntmps36
 go_upto_region 1 with fail
 erw [HW2.out]
 go_wp2_with fail
 erw [HW5.out]
 refine HM.out.mono ?_
 rintro z w6 ⟨rfl, hB6⟩
 have HE := Lib.hid (HB.out.trans (hB6.mono HB.out.size))
 clear hB6 HM g0 g1 g2 g3 g4 d0 d1 x0 x1 x2 x3
 go_wp2_with fail
 go_ret
 exact ⟨rfl, HE.out⟩
end Go.Proofs.YtihmibggonffdaaGreat
