/- T6, T7 as one. -/
import Derived.Test.YtihmibggonffdaaGreatT5
import Derived.Test.YtihmibggonffdaaGreatF1
import Derived.Test.YtihmibggonffdaaGreatD2
import Derived.Deep.RegionHeld3
import Derived.StillTailTactics
import Derived.Deep.CutBlock
import Derived.Deep.CutRange
import Derived.WalkMore
/- What an expression's level hangs on: the two closures. -/
namespace Go.Proofs.YtihmibggonffdaaGreat
open Go.RowKit

structure Bb (bb M : Nat) (w w' : World) : Prop where
 os : w'.os = w.os
 tape : w'.tape = w.tape
 output : w'.output = w.output
 size : w.heap.size ≤ w'.heap.size
 block : ∀ k, k < M → k ≠ bb → w'.heap[k]? = w.heap[k]?
theorem Bb.refl (bb M : Nat) (w : World) : Bb bb M w w := ⟨rfl, rfl, rfl, Nat.le_refl _, fun _ _ _ => rfl⟩
theorem Bb.trans {bb M : Nat} {a b c : World} (h : Bb bb M a b) (k : Bb bb M b c) : Bb bb M a c :=
 ⟨k.os.trans h.os, k.tape.trans h.tape, k.output.trans h.output, Nat.le_trans h.size k.size, fun i hi hn => (k.block i hi hn).trans (h.block i hi hn)⟩
theorem Bb.drew {bb M : Nat} {a b : World} (h : Bb bb M a b) : Bb bb M a b.drew := ⟨h.os, h.tape, h.output, h.size, h.block⟩
theorem Bb.below {bb M N : Nat} {a b : World} (h : Bb bb M a b) (h1 : N ≤ bb) (h2 : N ≤ M) : Below N a b :=
 ⟨h.os, h.tape, h.output, h.size, fun k hk => h.block k (by omega) (by omega)⟩
theorem Bb.of_below {bb M : Nat} {a b : World} (h : Below a.heap.size a b) (hM : M ≤ a.heap.size) : Bb bb M a b := ⟨h.os, h.tape, h.output, h.size, fun k hk _ => h.block k (by omega)⟩
theorem Bb.cell {bb M : Nat} {a b : World} (h : Bb bb M a b) {p : Addr} (h1 : p.block < M) (h2 : p.block ≠ bb) : b.cell? p = a.cell? p := World.cell?_of_block (h.block _ h1 h2)
structure BI (w : World) (bb M : Nat) (b : Bas) (wv pv : Value) : Prop where
 k : w.heap[bb]? = some (.cells #[wv, pv, .bool b.secret, .bool b.refused] 93 (0, 0))
 ws : SRow w M wv b.words
 ps : SRow w M pv b.places
 ne : ∀ g, wv.ownBlock = some g → pv.ownBlock ≠ some g
 lt : bb < M
 sz : M ≤ w.heap.size
def BasIn (w : World) (bb M : Nat) (b : Bas) : Prop := ∃ wv pv, BI w bb M b wv pv
theorem SRow.base {w : World} {M g : Nat} {v : Value} {l : List (List UInt8)} (h : SRow w M v l) (hg : v.ownBlock = some g) : M ≤ g ∧ g < w.heap.size := by
 rcases h.2 with ⟨rfl, _⟩ | ⟨g', cap, cur, rfl, hb, hk, _⟩
 · simp [Value.ownBlock] at hg
 · simp [Value.ownBlock] at hg; subst hg; exact ⟨hb, lt_blk hk⟩
theorem SRow.kept {w w' : World} {M : Nat} {row : Option Nat} {v : Value} {l : List (List UInt8)} (h : SRow w M v l) (hg : w.grownBy w' row) (hn : ∀ g, v.ownBlock = some g → row ≠ some g) : SRow w' M v l := by
 refine World.ownsRow.kept h hg ?_
 cases hv : v.ownBlock with
 | none => exact .inl rfl
 | some g => exact .inr fun e => hn g hv e.symm
theorem SRow.set {w : World} {M bb j : Nat} {v u : Value} {l : List (List UInt8)} (h : SRow w M v l) (hb : bb < M) : SRow (w.setCell ⟨bb, j, none⟩ u) M v l := by
 refine h.kept (row := some bb) ⟨rfl, rfl, rfl, by simp [World.setCell], fun k hk hne => Below.heap_setCell _ ⟨bb, j, none⟩ _ _ (fun e => hne (by rw [e]))⟩ ?_
 intro g hg e
 have := (h.base hg).1
 simp at e
 omega
theorem BI.drew {w : World} {bb M : Nat} {b : Bas} {wv pv : Value} (h : BI w bb M b wv pv) : BI w.drew bb M b wv pv := ⟨h.k, h.ws, h.ps, h.ne, h.lt, h.sz⟩
theorem BI.cells {w : World} {bb M : Nat} {b : Bas} {wv pv : Value} (h : BI w bb M b wv pv) : w.cell? ⟨bb, 0, none⟩ = some wv ∧ w.cell? ⟨bb, 1, none⟩ = some pv ∧ w.cell? ⟨bb, 2, none⟩ = some (.bool b.secret) ∧ w.cell? ⟨bb, 3, none⟩ = some (.bool b.refused) :=
 ⟨cell_blk h.k rfl, cell_blk h.k rfl, cell_blk h.k rfl, cell_blk h.k rfl⟩
theorem BI.frz {w : World} {bb M : Nat} {b : Bas} {wv pv : Value} (h : BI w bb M b wv pv) (j : Nat) : w.frozen? ⟨bb, j, none⟩ = false := by simp [World.frozen?, h.k]
theorem BI.later {w w' : World} {bb M : Nat} {b : Bas} {wv pv : Value} (h : BI w bb M b wv pv) (hB : Below w.heap.size w w') : BI w' bb M b wv pv :=
 have hg : w.grownBy w' none := ⟨hB.os, hB.tape, hB.output, hB.size, fun k hk _ => hB.block k hk⟩
 ⟨(hB.block _ (lt_blk h.k)).trans h.k, h.ws.kept hg (fun _ _ e => by cases e), h.ps.kept hg (fun _ _ e => by cases e), h.ne, h.lt, Nat.le_trans h.sz hB.size⟩
theorem setc {w : World} {bb j : Nat} {A : Array Value} {t : TypeId} {q : Nat × Nat} (h : w.heap[bb]? = some (.cells A t q)) (u : Value) : (w.setCell ⟨bb, j, none⟩ u).heap[bb]? = some (.cells (A.setIfInBounds j u) t q) := by
 simp only [World.setCell, Array.getElem?_modify]
 simp [h]
theorem Bb.grown {w w2 : World} {bb M : Nat} {row : Option Nat} (hg : w.grownBy w2 row) (hr : ∀ g, row = some g → M ≤ g) (hM : M ≤ w.heap.size) : Bb bb M w w2 :=
 ⟨hg.os, hg.tape, hg.output, hg.size, fun k hk _ => hg.block k (by omega) (fun e => by have := hr k e.symm; omega)⟩
theorem Bb.set {w w2 : World} {bb M j : Nat} (h : Bb bb M w w2) (u : Value) : Bb bb M w (w2.setCell ⟨bb, j, none⟩ u) :=
 ⟨h.os, h.tape, h.output, by simp [World.setCell]; exact h.size, fun k hk hn => (Below.heap_setCell _ ⟨bb, j, none⟩ _ _ hn).trans (h.block k hk hn)⟩
theorem BI.putP {w w2 : World} {bb M : Nat} {b : Bas} {wv pv pv2 : Value} {l : List (List UInt8)} (h : BI w bb M b wv pv) (hs : SRow w2 M pv2 l) (hg : w.grownBy w2 pv.ownBlock) (ho : OwnTo w pv pv2) :
   (BI (w2.setCell ⟨bb, 1, none⟩ pv2) bb M { b with places := l } wv pv2 ∧ Bb bb M w (w2.setCell ⟨bb, 1, none⟩ pv2)) ∧ w2.cell? ⟨bb, 1, none⟩ = some pv ∧ w2.frozen? ⟨bb, 1, none⟩ = false := by
 have hl := h.lt
 have k2 := (hg.block bb (lt_blk h.k) (fun e => by have := (h.ps.base e.symm).1; omega)).trans h.k
 refine ⟨⟨⟨setc k2 pv2, (h.ws.kept hg fun g hg e => h.ne g hg e).set h.lt, hs.set h.lt, fun g hw e => ?_, h.lt, by simp [World.setCell]; exact Nat.le_trans h.sz hg.size⟩, (Bb.grown hg (fun g e => (h.ps.base e).1) h.sz).set pv2⟩, cell_blk k2 rfl, by simp [World.frozen?, k2]⟩
 have hwl := (h.ws.base hw).2
 rcases ho with ho | ho | ho
 · exact h.ne g hw (ho ▸ e)
 · rw [e] at ho; simp at ho; omega
 · rw [e] at ho; simp at ho; omega
theorem BI.putW {w w2 : World} {bb M : Nat} {b : Bas} {wv pv wv2 : Value} {l : List (List UInt8)} (h : BI w bb M b wv pv) (hs : SRow w2 M wv2 l) (hg : w.grownBy w2 wv.ownBlock) (ho : OwnTo w wv wv2) :
   (BI (w2.setCell ⟨bb, 0, none⟩ wv2) bb M { b with words := l } wv2 pv ∧ Bb bb M w (w2.setCell ⟨bb, 0, none⟩ wv2)) ∧ w2.cell? ⟨bb, 0, none⟩ = some wv ∧ w2.frozen? ⟨bb, 0, none⟩ = false := by
 have hl := h.lt
 have k2 := (hg.block bb (lt_blk h.k) (fun e => by have := (h.ws.base e.symm).1; omega)).trans h.k
 refine ⟨⟨⟨setc k2 wv2, hs.set h.lt, (h.ps.kept hg fun g hg e => h.ne g e hg).set h.lt, fun g hw e => ?_, h.lt, by simp [World.setCell]; exact Nat.le_trans h.sz hg.size⟩, (Bb.grown hg (fun g e => (h.ws.base e).1) h.sz).set wv2⟩, cell_blk k2 rfl, by simp [World.frozen?, k2]⟩
 have hpl := (h.ps.base e).2
 rcases ho with ho | ho | ho
 · exact h.ne g (ho ▸ hw) e
 · rw [hw] at ho; simp at ho; omega
 · rw [hw] at ho; simp at ho; omega
theorem BI.putS {w : World} {bb M : Nat} {b : Bas} {wv pv : Value} (h : BI w bb M b wv pv) (t : Bool) : BI (w.setCell ⟨bb, 2, none⟩ (.bool t)) bb M { b with secret := t } wv pv ∧ Bb bb M w (w.setCell ⟨bb, 2, none⟩ (.bool t)) :=
 ⟨⟨setc h.k _, h.ws.set h.lt, h.ps.set h.lt, h.ne, h.lt, by simp [World.setCell]; exact h.sz⟩, (Bb.refl _ _ _).set _⟩
theorem BI.putR {w : World} {bb M : Nat} {b : Bas} {wv pv : Value} (h : BI w bb M b wv pv) (t : Bool) : BI (w.setCell ⟨bb, 3, none⟩ (.bool t)) bb M { b with refused := t } wv pv ∧ Bb bb M w (w.setCell ⟨bb, 3, none⟩ (.bool t)) :=
 ⟨⟨setc h.k _, h.ws.set h.lt, h.ps.set h.lt, h.ne, h.lt, by simp [World.setCell]; exact h.sz⟩, (Bb.refl _ _ _).set _⟩

def plcV (bb pc fc c9 : Nat) : Value := .func (.func 73) #[] #[.pointer (some ⟨bb, 0, none⟩), .pointer (some ⟨pc, 0, none⟩), .pointer (some ⟨fc, 0, none⟩), .pointer (some ⟨c9, 0, none⟩)]
def witV (bb pc fc c9 c8 : Nat) : Value := .func (.func 69) #[] #[.pointer (some ⟨bb, 0, none⟩), .pointer (some ⟨pc, 0, none⟩), .pointer (some ⟨fc, 0, none⟩), .pointer (some ⟨c9, 0, none⟩), .pointer (some ⟨c8, 0, none⟩)]
structure CE (w : World) (N bb M pc fc c9 c8 pb : Nat) (x : Prg) (s : PrgP) (i : Nat) (fn : Fnc) : Prop where
 pcC : w.cell? ⟨pc, 0, none⟩ = some (.pointer (some ⟨pb, 0, none⟩))
 fcC : w.cell? ⟨fc, 0, none⟩ = some (.int .i64 (i : Int))
 c9C : w.cell? ⟨c9, 0, none⟩ = some (plcV bb pc fc c9)
 c8C : w.cell? ⟨c8, 0, none⟩ = some (witV bb pc fc c9 c8)
 prg : PB w N x pb s.p s.q s.c s.d
 fi : x.fns[i]? = some fn
 lts : (N ≤ bb ∧ bb < M ∧ M ≤ w.heap.size) ∧ (pb < bb ∧ pc < bb ∧ fc < bb) ∧ (bb < c9 ∧ c9 < M) ∧ (bb < c8 ∧ c8 < M)
theorem CE.later {w w' : World} {N bb M pc fc c9 c8 pb i : Nat} {x : Prg} {s : PrgP} {fn : Fnc} (h : CE w N bb M pc fc c9 c8 pb x s i fn) (hB : Bb bb M w w') : CE w' N bb M pc fc c9 c8 pb x s i fn := by
 obtain ⟨⟨l1, l2, l3⟩, ⟨l4, l5, l6⟩, ⟨l7, l8⟩, ⟨l9, la⟩⟩ := h.lts
 have hbl := hB.below l1 (by omega)
 have hsz := hB.size
 exact ⟨(hB.cell (p := ⟨pc, 0, none⟩) (by show pc < M; omega) (by show pc ≠ bb; omega)).trans h.pcC, (hB.cell (p := ⟨fc, 0, none⟩) (by show fc < M; omega) (by show fc ≠ bb; omega)).trans h.fcC,
   (hB.cell (p := ⟨c9, 0, none⟩) l8 (by show c9 ≠ bb; omega)).trans h.c9C, (hB.cell (p := ⟨c8, 0, none⟩) la (by show c8 ≠ bb; omega)).trans h.c8C,
   ⟨(hB.block pb (by omega) (by omega)).trans h.prg.cs, h.prg.ok.later hbl (Nat.le_refl N)⟩, h.fi, ⟨⟨l1, l2, by omega⟩, ⟨l4, l5, l6⟩, ⟨l7, l8⟩, ⟨l9, la⟩⟩⟩
def Bas.wt (b : Bas) : Nat := b.words.length + b.places.length
theorem wi_len (l : List (List UInt8)) (s : List UInt8) : (wi l s).length ≤ l.length + 1 := by unfold wi; split <;> simp
theorem plcB_wt (x : Prg) (fn : Fnc) (op : Int) (nm : List UInt8) (b : Bas) : (plcB x fn op nm b).wt ≤ b.wt + 1 := by
 unfold plcB
 split
 · have := wi_len b.places nm; simp only [Bas.wt]; omega
 · split <;> simp [Bas.wt]
mutual
theorem Ex.plc_wt (x : Prg) (fn : Fnc) : ∀ (e : Ex) (b : Bas), (e.plc x fn b).wt ≤ b.wt + e.size
 | .mk op wd nm a, b => by
   rw [Ex.plc, Ex.size]
   have h1 := Exs.plc_wt x fn a (plcB x fn op nm b)
   have h2 := plcB_wt x fn op nm b
   omega
theorem Exs.plc_wt (x : Prg) (fn : Fnc) : ∀ (l : Exs) (b : Bas), (l.plc x fn b).wt ≤ b.wt + l.size
 | .nil, b => by rw [Exs.plc]; omega
 | .cons e r, b => by
   rw [Exs.plc, Exs.size]
   have h1 := Exs.plc_wt x fn r (e.plc x fn b)
   have h2 := Ex.plc_wt x fn e b
   omega
end
theorem chk_args {x : Prg} {fn : Fnc} {e : Ex} {deep : Nat} (h : e.chk x fn deep = 0) : (((e.args.len : Nat) : Int) = argsN e.op) ∧ e.args.chk x fn (deep + 1) = 0 := by
 rw [Ex.chk_eq] at h
 by_cases h1 : ask (decide (deep ≤ 64)) 12 = 0
 · rw [seq_ok h1] at h
   by_cases h2 : ask (shapeB e) 9 = 0
   · rw [seq_ok h2] at h
     by_cases h3 : headR x fn e = 0
     · rw [seq_ok h3] at h
       have := ask9' h2
       unfold shapeB at this
       simp only [Bool.and_eq_true, beq_iff_eq] at this
       exact ⟨this.1, h⟩
     · rw [seq_no h3] at h; exact absurd h h3
   · rw [seq_no h2] at h; exact absurd h h2
 · rw [seq_no h1] at h; exact absurd h h1
theorem chk_cons {x : Prg} {fn : Fnc} {e : Ex} {r : Exs} {deep : Nat} (h : (Exs.cons e r).chk x fn deep = 0) : e.chk x fn deep = 0 ∧ r.chk x fn deep = 0 := by
 rw [Exs.chk] at h
 by_cases h1 : e.chk x fn deep = 0
 · rw [seq_ok h1] at h; exact ⟨h1, h⟩
 · rw [seq_no h1] at h; exact absurd h h1
/- What an expression's level hangs on: a place, and what is within. -/
open Go.RowKit


def PlcTo (n : Nat) : Prop := ∀ (e : Ex), e.size < n → ∀ (N bb M pc fc c9 c8 pb i deep : Nat) (x : Prg) (s : PrgP) (fn : Fnc) (eb eo : Nat) (w : World) (b : Bas), CE w N bb M pc fc c9 c8 pb x s i fn → e.chk x fn deep = 0 → e.At w N eb eo → eb < N → BasIn w bb M b → b.wt + e.size ≤ 3000000 →
   Calls Tryz.prog 73 #[.pointer (some ⟨eb, eo, none⟩), .pointer (some ⟨bb, 0, none⟩), .pointer (some ⟨pc, 0, none⟩), .pointer (some ⟨fc, 0, none⟩), .pointer (some ⟨c9, 0, none⟩)] w fun z w' => z = .returned (.tuple #[]) ∧ BasIn w' bb M (e.plc x fn b) ∧ Bb bb M w w'

set_option maxRecDepth 100000 in
set_option maxHeartbeats 3200000 in
theorem eachp_any (n : Nat) (ih : PlcTo n) (e : Ex) (hsz : e.args.size < n) (N bb M pc fc c9 c8 pb i deep : Nat) (x : Prg) (s : PrgP) (fn : Fnc) (eb eo : Nat) (w : World) (b : Bas) (hE : CE w N bb M pc fc c9 c8 pb x s i fn) (hchk : e.args.chk x fn deep = 0) (he : e.At w N eb eo) (hb : eb < N) (hB : BasIn w bb M b) (hwt : b.wt + e.args.size ≤ 3000000) :
   Calls Tryz.prog 72 #[.pointer (some ⟨eb, eo, none⟩), plcV bb pc fc c9] w fun z w' => z = .returned (.tuple #[]) ∧ BasIn w' bb M (e.args.plc x fn b) ∧ Bb bb M w w' := by
 obtain ⟨pa, ca, g0, g1, g2, g3, hok⟩ := he.open'
 obtain ⟨ab, ao, hpa, hab, haa⟩ : ∃ b2 o2, (e.args.len = 0 ∨ pa = some ⟨b2, o2, none⟩) ∧ (b2 < N ∨ e.args.len = 0) ∧ e.args.At w N b2 o2 := by
   rcases hok.1.2 with h0 | ⟨b, o, hp, hb, ha⟩
   · exact ⟨0, 0, .inl h0, .inr h0, by cases hxa : e.args with | nil => trivial | cons => rw [hxa] at h0; simp [Exs.len] at h0⟩
   · exact ⟨b, o, .inr hp, .inl hb, ha⟩
 have hma := hok.1.1
 have hl := hE.lts
 have HS := Lib.hid (fun (W : World) (h : Bb bb M w W) => show W.cell? ⟨eb, eo + 3, none⟩ = some (.slice pa e.args.len ca) from (h.cell (p := ⟨eb, eo + 3, none⟩) (by show eb < M; omega) (by show eb ≠ bb; omega)).trans g3)
 have HN := Lib.hid (fun (W : World) (h : Bb bb M w W) => show Below N w W from h.below hl.1.1 (by omega))
 have HE := Lib.hid (fun (W : World) (h : Bb bb M w W) => hE.later h)
 have HA := Lib.hid haa
 have HAB := Lib.hid hab
 have IH := Lib.hid ih
 have HB0 := Lib.hid hB
 have HC0 := Lib.hid hchk
 have HW0 := Lib.hid hwt
 have HSZ := Lib.hid hsz
 clear he hok g0 g1 g2 g3 hE hl haa hab ih hB hchk hwt hsz hb
 have g3 := HS.out w (Bb.refl _ _ _)
 unfold plcV
 go_enter Tryz.func72, Tryz.ntmps72
 go_wp2_with fail
 go_loopw [10] (fun i wr => ∃ (k : Nat) (r : Exs) (b' : Bas), i = .int .i64 k ∧ k + r.len = e.args.len ∧ r.size ≤ e.args.size ∧ Hid (r.At w N ab (ao + k * 4)) ∧ Hid (r.chk x fn deep = 0) ∧ Hid (r.plc x fn b' = e.args.plc x fn b) ∧ Hid (BasIn wr bb M b') ∧ Hid (Bb bb M w wr) ∧ Hid (b'.wt + r.size ≤ 3000000)) (fun i _ => e.args.len - (intOf i).toNat)
 case atStart => exact ⟨0, e.args, b, rfl, by omega, Nat.le_refl _, Lib.hid (by rw [Nat.zero_mul]; exact HA.out), HC0, Lib.hid rfl, HB0, Lib.hid (Bb.refl _ _ _), HW0⟩
 case round =>
   obtain ⟨k, r, b', rfl, hk, hrs, hr, hck, hE, hI, hF, hW⟩ := hrel
   clear g3
   have g3 := HS.out wr hF.out
   cases r with
   | nil =>
     simp only [Exs.len] at hk
     have hge : ¬ k < e.args.len := by omega
     have HR := Lib.hid (show BasIn wr bb M (e.args.plc x fn b) from by rw [← hE.out]; exact hI.out)
     go_wp2_with fail
     go_end0
     exact ⟨rfl, HR.out, hF.out⟩
   | cons y r =>
     obtain ⟨hy, hr'⟩ := hr.out
     simp only [Exs.len] at hk
     simp only [Exs.size] at hrs
     have hlt : k < e.args.len := by omega
     have hab : ab < N := by have := HAB.out; omega
     have hpa' : pa = some ⟨ab, ao, none⟩ := by
       rcases hpa with h0 | h0
       · omega
       · exact h0
     have HR := Lib.hid hr'
     have HCK := Lib.hid (chk_cons hck.out)
     have HWT := Lib.hid (show (b'.wt + y.size ≤ 3000000) ∧ ((y.plc x fn b').wt + r.size ≤ 3000000) from by
       have := hW.out; have := y.plc_wt x fn b'
       simp only [Exs.size] at *
       omega)
     have HE2 := Lib.hid (show r.plc x fn (y.plc x fn b') = e.args.plc x fn b from by rw [← hE.out, Exs.plc])
     subst hpa'
     have HC := Lib.hid (IH.out y (by have := HSZ.out; omega) N bb M pc fc c9 c8 pb i deep x s fn ab (ao + k * 4) wr b' (HE.out wr hF.out) HCK.out.1 (Ex.At.later (HN.out wr hF.out) (Nat.le_refl N) y ab _ hab hy) hab hI.out HWT.out.1)
     clear hy hr hr' hab hck hE hI hW
     go_wp2_with fail
     refine HC.out.mono ?_
     rintro z w5 ⟨rfl, h5, hB5⟩
     have HB5 := Lib.hid (hF.out.trans hB5)
     have H5 := Lib.hid h5
     clear h5 hB5 g3 hF
     go_wp2_with fail
     go_roundw
     case rel => exact ⟨k + 1, r, _, by go_num, by omega, by omega, Lib.hid (by rw [show ao + (k + 1) * 4 = ao + k * 4 + 4 by omega]; exact HR.out), Lib.hid HCK.out.2, HE2, H5, HB5, Lib.hid HWT.out.2⟩
     case measure => simp [intOf]; omega

set_option maxRecDepth 100000 in
set_option maxHeartbeats 6400000 in
theorem plc_step (n : Nat) (ih : PlcTo n) : PlcTo (n + 1) := by
 intro e hsz N bb M pc fc c9 c8 pb i deep x s fn eb eo w b hE hchk he hb hB hwt
 obtain ⟨wv, pv, hX⟩ := hB
 have hl := hE.lts
 obtain ⟨pa, ca, g0, g1, g2, g3, hok⟩ := he.open'
 have HS := Lib.hid (fun (W : World) (h : Bb bb M w W) => show W.cell? ⟨eb, eo, none⟩ = some (.int .i64 e.op) ∧ W.cell? ⟨eb, eo + 2, none⟩ = some (.string (str e.name)) ∧ W.cell? ⟨eb, eo + 3, none⟩ = some (.slice pa e.args.len ca) from
   ⟨(h.cell (p := ⟨eb, eo, none⟩) (by show eb < M; omega) (by show eb ≠ bb; omega)).trans g0, (h.cell (p := ⟨eb, eo + 2, none⟩) (by show eb < M; omega) (by show eb ≠ bb; omega)).trans g2, (h.cell (p := ⟨eb, eo + 3, none⟩) (by show eb < M; omega) (by show eb ≠ bb; omega)).trans g3⟩)
 have HN := Lib.hid (fun (W : World) (h : Bb bb M w W) => show Below N w W from h.below hl.1.1 (by omega))
 have HCE := Lib.hid hE
 have HPB := Lib.hid (hE.later (Bb.refl bb M w).drew).prg
 have HNW := Lib.hid (show N ≤ w.heap.size by omega)
 have HX := Lib.hid hX
 have HL := Lib.hid (show b.words.length ≤ 4000000 ∧ b.places.length ≤ 4000000 by unfold Bas.wt at hwt; omega)
 have HCH := Lib.hid (chk_args hchk)
 have HEA := Lib.hid (fun (W : World) (h : Bb bb M w W) => Ex.At.later (HN.out W h) (Nat.le_refl N) e eb eo hb he)
 have hes : e.args.size + 1 = e.size := by obtain ⟨op, wd, nm, ar⟩ := e; rw [Ex.size]; rfl
 have HSZ := Lib.hid (show e.args.size < n by omega)
 have HWT := Lib.hid hwt
 have HES := Lib.hid hes
 have HBL := Lib.hid hb
 have IH := Lib.hid ih
 have HEq := Lib.hid (Ex.plc_eq x fn e b)
 have g0 := (HS.out w (Bb.refl _ _ _)).1
 clear g1 g2 g3 hok hE hl hX hchk he hwt hsz hes ih hb
 go_enter Tryz.func73, Tryz.ntmps73
 go_upto_block 0 with fail
 go_cut [] from 10 to 33 (fun wx => Hid (BasIn wx bb M (plcB x fn e.op e.name b)) ∧ Hid (Bb bb M w wx))
 case first => as_aux_lemma =>
  by_cases h2 : e.op = 2
  · have e2 : (e.op == 2) = true := by simpa using h2
    have HBB := Lib.hid (show plcB x fn e.op e.name b = { b with places := wi b.places e.name } from by rw [plcB, if_pos h2])
    clear h2
    go_upto_region 2 with fail
    refine bgk 8 (fun W => W.cell? ⟨bb, 1, none⟩ = some pv ∧ W.cell? ⟨eb, eo + 2, none⟩ = some (.string (str e.name))) (⟨HX.out.cells.2.1, (HS.out _ (Bb.refl _ _ _)).2.1⟩) (fun hHeld => ?_)
    refine tz 0 ?_
    refine tl 1 ?_
    refine tz 2 ?_
    refine tz 3 ?_
    refine tz 4 ?_
    refine tl 5 ?_
    refine rdk 6 rfl (fun K hK => ?_)
    go_simp
    refine (with_any b.places e.name M pv _ HX.out.drew.ps HX.out.sz HL.out.2).mono ?_
    rintro z w2 ⟨v2, rfl, hs2, hg2, ho2⟩
    obtain ⟨p2, c2, rfl, hr2⟩ := ownStrs hs2 (by have := wi_len b.places e.name; have := HL.out.2; omega)
    clear hr2
    have HP := Lib.hid (HX.out.drew.putP hs2 hg2 ho2)
    have HS2 := Lib.hid (HS.out w2 ((Bb.refl bb M w).drew.trans (Bb.grown hg2 (fun g e => (HX.out.ps.base e).1) HX.out.sz)))
    clear hs2 hg2 ho2
    refine hK.out _ _ ?_ (fun hHeldN => ?_)
    · exact ⟨HP.out.2.1, HS2.out.2.1⟩
    clear hK K hHeld
    have hHeld := hHeldN
    clear hHeldN
    try simp only [Act.put, List.setIfInBounds_toArray, List.set_cons_zero, List.set_cons_succ]
    refine tz 7 ?_
    refine rdb 8 rfl (fun K hK => ?_)
    have z1 := HP.out.2.1
    have f1 := HP.out.2.2
    go_simp
    refine hK.out _ _ ?_
    clear hK K
    try simp only [Act.put, List.setIfInBounds_toArray, List.set_cons_zero, List.set_cons_succ]
    refine dnk ?_ (by kernel_rfl) _
    clear hHeld
    go_wp2_with fail
    go_meet
    exact ⟨Lib.hid (by rw [HBB.out]; exact ⟨_, _, HP.out.1.1⟩), Lib.hid ((Bb.refl _ _ _).drew.trans HP.out.1.2)⟩
  · have e2 : (e.op == 2) = false := by simpa using h2
    by_cases h3 : e.op = 3
    · have e3 : (e.op == 3) = true := by simpa using h3
      have HBB := Lib.hid (show plcB x fn e.op e.name b = { b with refused := b.refused || secB x fn e.name } from by rw [plcB, if_neg h2, if_pos h3])
      clear h2 h3
      have HX4 := HX.out.cells.2.2.2
      cases hrf : b.refused with
      | true =>
        rw [hrf] at HX4
        go_upto_region 4 with fail
        refine bgk 12 (fun W => W.cell? ⟨bb, 3, none⟩ = some (.bool true) ∧ W.cell? ⟨pc, 0, none⟩ = some (.pointer (some ⟨pb, 0, none⟩)) ∧ W.cell? ⟨fc, 0, none⟩ = some (.int .i64 (i : Int)) ∧ W.cell? ⟨eb, eo + 2, none⟩ = some (.string (str e.name))) (⟨HX4, HCE.out.pcC, HCE.out.fcC, (HS.out _ (Bb.refl _ _ _)).2.1⟩) (fun hHeld => ?_)
        refine tz 0 ?_
        refine tl 1 ?_
        refine tz 2 ?_
        refine sz 3 ?_
        refine sz 4 ?_
        refine sz 5 ?_
        refine sz 6 ?_
        refine sz 7 ?_
        refine sz 8 ?_
        refine sz 9 ?_
        refine tz 10 ?_
        refine tz 11 ?_
        refine rdb 12 rfl (fun K hK => ?_)
        have f1 := HX.out.frz 3
        have z1 := HX4
        go_simp
        refine hK.out _ _ ?_
        clear hK K
        try simp only [Act.put, List.setIfInBounds_toArray, List.set_cons_zero, List.set_cons_succ]
        refine dnk ?_ (by kernel_rfl) _
        clear hHeld
        go_wp2_with fail
        go_meet
        refine ⟨Lib.hid ?_, Lib.hid ((Bb.refl _ _ _).drew.trans (HX.out.drew.putR true).2)⟩
        rw [HBB.out, hrf]
        exact ⟨_, _, (HX.out.drew.putR true).1⟩
      | false =>
        rw [hrf] at HX4
        have HSB := Lib.hid (show (false || secB x fn e.name) = secB x fn e.name from rfl)
        go_upto_region 4 with fail
        refine bgk 12 (fun W => W.cell? ⟨bb, 3, none⟩ = some (.bool false) ∧ W.cell? ⟨pc, 0, none⟩ = some (.pointer (some ⟨pb, 0, none⟩)) ∧ W.cell? ⟨fc, 0, none⟩ = some (.int .i64 (i : Int)) ∧ W.cell? ⟨eb, eo + 2, none⟩ = some (.string (str e.name))) (⟨HX4, HCE.out.pcC, HCE.out.fcC, (HS.out _ (Bb.refl _ _ _)).2.1⟩) (fun hHeld => ?_)
        refine tz 0 ?_
        refine tl 1 ?_
        refine tz 2 ?_
        refine tl 3 ?_
        refine tl 4 ?_
        refine tz 5 ?_
        refine tz 6 ?_
        refine tz 7 ?_
        refine tl 8 ?_
        refine rdk 9 rfl (fun K hK => ?_)
        go_simp
        refine (isSecret_any x s i fn e.name pb N _ HPB.out HNW.out HCE.out.fi).mono ?_
        rintro z w2 ⟨rfl, hB2⟩
        have HB2 := Lib.hid (show Below w.heap.size w w2 from (Below.refl _ _).drew.trans hB2)
        have HX2 := Lib.hid (HX.out.later HB2.out)
        have hbb2 : Bb bb M w w2 := Bb.of_below HB2.out HX.out.sz
        have HK2 := Lib.hid (show w2.cell? ⟨bb, 3, none⟩ = some (.bool false) ∧ w2.cell? ⟨pc, 0, none⟩ = some (.pointer (some ⟨pb, 0, none⟩)) ∧ w2.cell? ⟨fc, 0, none⟩ = some (.int .i64 (i : Int)) ∧ w2.cell? ⟨eb, eo + 2, none⟩ = some (.string (str e.name)) from ⟨by rw [← hrf]; exact HX2.out.cells.2.2.2, (HCE.out.later hbb2).pcC, (HCE.out.later hbb2).fcC, (HS.out _ hbb2).2.1⟩)
        clear hB2 hbb2
        refine hK.out _ _ ?_ (fun hHeldN => ?_)
        · exact HK2.out
        clear hK K hHeld
        have hHeld := hHeldN
        clear hHeldN
        try simp only [Act.put, List.setIfInBounds_toArray, List.set_cons_zero, List.set_cons_succ]
        refine tz 10 ?_
        refine tz 11 ?_
        refine rdb 12 rfl (fun K hK => ?_)
        have z1 := HK2.out.1
        have f1 := HX2.out.frz 3
        go_simp
        refine hK.out _ _ ?_
        clear hK K
        try simp only [Act.put, List.setIfInBounds_toArray, List.set_cons_zero, List.set_cons_succ]
        refine dnk ?_ (by kernel_rfl) _
        clear hHeld
        go_wp2_with fail
        go_meet
        refine ⟨Lib.hid ?_, Lib.hid ((Bb.of_below HB2.out HX.out.sz).trans (HX2.out.putR (secB x fn e.name)).2)⟩
        rw [HBB.out, hrf]
        exact ⟨_, _, (HX2.out.putR (secB x fn e.name)).1⟩
    · have e3 : (e.op == 3) = false := by simpa using h3
      have HBB := Lib.hid (show plcB x fn e.op e.name b = b from by rw [plcB, if_neg h2, if_neg h3])
      go_wp2_with fail
      go_meet
      exact ⟨Lib.hid (by rw [HBB.out]; exact ⟨_, _, HX.out⟩), Lib.hid (Bb.refl _ _ _)⟩
 case rest =>
   obtain ⟨hI, hF⟩ := hcut
   have HC := Lib.hid (eachp_any n IH.out e HSZ.out N bb M pc fc c9 c8 pb i (deep + 1) x s fn eb eo wc (plcB x fn e.op e.name b) (HCE.out.later hF.out) HCH.out.2 (HEA.out wc hF.out) HBL.out hI.out (by have := HWT.out; have := HES.out; have := plcB_wt x fn e.op e.name b; omega))
   have k9 := (HCE.out.later hF.out).c9C
   unfold plcV at HC k9
   go_wp2_with fail
   refine HC.out.mono ?_
   rintro z w5 ⟨rfl, h5, hB5⟩
   have H5 := Lib.hid (show BasIn w5 bb M (e.plc x fn b) from by rw [HEq.out]; exact h5)
   have HB5 := Lib.hid (hF.out.trans hB5)
   clear h5 hB5 k9
   go_wp2_with fail
   go_end0
   exact ⟨rfl, H5.out, HB5.out⟩
theorem plc_to : ∀ n, PlcTo n
 | 0 => fun _ h => absurd h (Nat.not_lt_zero _)
 | n + 1 => plc_step n (plc_to n)
end Go.Proofs.YtihmibggonffdaaGreat
