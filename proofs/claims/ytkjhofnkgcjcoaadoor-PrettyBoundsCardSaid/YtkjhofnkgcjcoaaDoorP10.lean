/- How much statements, functions and programs have: the document's count and Long. -/
import Derived.Test.YtkjhofnkgcjcoaaDoorP09
import Derived.Deep.RegionHeld
import Derived.Deep.RegionHeld3
import Derived.WalkMore
import Derived.Deep.CutBlock
import Derived.Deep.CutRange
import Derived.Outline
import Derived.IntWalk
import Derived.Test.YtkjhofnkgcjcoaaDoorP05
namespace Go.Proofs.YtkjhofnkgcjcoaaDoor
open Go.RowKit

def strsT : List (List UInt8) → Nat
  | [] => 0
  | x :: r => 1 + x.length + strsT r
mutual
def St.total : St → Nat
  | .mk _ nm ns e a g _ _ bd el => 1 + nm.length + e.total + a.total + strsT ns + g.total + bd.total + el.total
def Sts.total : Sts → Nat
  | .nil => 0
  | .cons x r => x.total + r.total
end
theorem wrap_add (a b : Nat) (h : a + b ≤ 1000000) : IntKind.i64.wrap ((a : Int) + (b : Int)) = ((a + b : Nat) : Int) := by
  have : ((a + b : Nat) : Int) = (a : Int) + (b : Int) := by omega
  rw [this]
  exact IntWalk.i64_in _ (by omega)
/-- the count stands at v, so much is to come: it is right as far as M -/
def Cnt (M tot v rest : Nat) : Prop := (v ≤ M ∧ tot = v + rest) ∨ (M < v ∧ M < tot)
end Go.Proofs.YtkjhofnkgcjcoaaDoor
/- The document's None: is an expression a zero one? -/
namespace Go.Proofs.YtkjhofnkgcjcoaaDoor
open Go.RowKit

def Ex.none (x : Ex) : Bool := decide (x.op = 0) && (decide (x.word = 0) && (x.name.isEmpty && decide (x.args.len = 0)))
end Go.Proofs.YtkjhofnkgcjcoaaDoor
/- The document's Deep. -/
namespace Go.Proofs.YtkjhofnkgcjcoaaDoor
open Go.RowKit

def Ex.dp (x : Ex) : Nat := if x.none then 0 else x.depth
mutual
def St.wt : St → Nat
  | .mk _ _ _ e a g _ _ bd el => 1 + e.size + a.size + g.size + bd.wt + el.wt
def Sts.wt : Sts → Nat
  | .nil => 0
  | .cons x r => x.wt + r.wt
end
mutual
def St.deep : St → Nat
  | .mk _ _ _ e a g _ _ bd el => max (max (max (max bd.deep el.deep) g.deepest) e.dp) a.dp + 1
def Sts.deep : Sts → Nat
  | .nil => 0
  | .cons x r => max x.deep r.deep
end
theorem Ex.dp_le (x : Ex) : x.dp ≤ x.size := by
  unfold Ex.dp
  have := Ex.depth_le x
  split <;> omega
mutual
theorem St.deep_le : ∀ x : St, x.deep ≤ x.wt
  | .mk _ _ _ e a g _ _ bd el => by
    have h1 := Sts.deep_le bd
    have h2 := Sts.deep_le el
    have h3 := Exs.deepest_le g
    have h4 := Ex.dp_le e
    have h5 := Ex.dp_le a
    simp only [St.deep, St.wt]
    omega
theorem Sts.deep_le : ∀ l : Sts, l.deep ≤ l.wt
  | .nil => by simp [Sts.deep]
  | .cons x r => by
    have h1 := St.deep_le x
    have h2 := Sts.deep_le r
    simp only [Sts.deep, Sts.wt]
    omega
end
end Go.Proofs.YtkjhofnkgcjcoaaDoor
/- Which statements, functions and programs can be told, and their lines. -/
namespace Go.Proofs.YtkjhofnkgcjcoaaDoor
open Go.RowKit

def namesB (l : List (List UInt8)) : Bool := l.all nameB
/-- nothing, as an expression -/
def E0 : Ex := .mk 0 0 [] .nil
def St.isZero : St → Bool
  | .mk kd nm ns e a g lo hi bd el => decide (kd = 0) && (nm.isEmpty && (decide (ns.length = 0) && (e.none && (a.none && (decide (g.len = 0) && (decide (lo = 0) && (decide (hi = 0) && (decide (bd.len = 0) && decide (el.len = 0)))))))))
/-- what a statement has besides what its kind names -/
def restSt (kd : Int) (nm : List UInt8) (ns : List (List UInt8)) (e a : Ex) (g : Exs) (lo hi : Nat) (bd el : Sts) : St :=
  if kd = 1 then .mk 0 [] ns E0 a g lo hi bd el
  else if kd = 2 then .mk 0 [] ns E0 E0 g lo hi bd el
  else if kd = 3 then .mk 0 nm ns E0 a g lo hi .nil .nil
  else if kd = 4 then .mk 0 nm ns E0 a g lo hi .nil el
  else if kd = 5 then .mk 0 [] ns e a g 0 0 .nil el
  else if kd = 6 then .mk 0 [] [] e a .nil lo hi bd el
  else .mk 0 nm ns e a g lo hi bd el
mutual
def St.may : St → Bool
  | .mk kd nm ns e a g lo hi bd el =>
    (if kd = 1 then nameB nm && e.may
     else if kd = 2 then nameB nm && (a.may && e.may)
     else if kd = 3 then e.may && (bd.may && el.may)
     else if kd = 4 then e.may && bd.may
     else if kd = 5 then nameB nm && bd.may
     else if kd = 6 then nameB nm && (namesB ns && g.may)
     else false) && (restSt kd nm ns e a g lo hi bd el).isZero
def Sts.may : Sts → Bool
  | .nil => true
  | .cons x r => x.may && r.may
end
/-- statements that can be told -/
def Sts.can (l : Sts) : Bool := decide (l.deep ≤ 64) && l.may

def secT (s : Bool) : List UInt8 := if s then [32, 115, 101, 99, 114, 101, 116] else []
/-- a statement's first line -/
def firstT (kd : Int) (nm : List UInt8) (ns : List (List UInt8)) (et aT : List UInt8) (gt : List (List UInt8)) (lo hi : Nat) : List UInt8 :=
  if kd = 1 then nm ++ [32, 61, 32] ++ et ++ [59]
  else if kd = 2 then (nm ++ [91] ++ aT ++ [93]) ++ [32, 61, 32] ++ et ++ [59]
  else if kd = 3 then [105, 102, 32] ++ et ++ [32, 123]
  else if kd = 4 then [119, 104, 105, 108, 101, 32] ++ et ++ [32, 123]
  else if kd = 5 then [102, 111, 114, 32] ++ nm ++ [32] ++ Lib.decDigits lo ++ [32] ++ Lib.decDigits hi ++ [32, 123]
  else if ns.length = 0 then (nm ++ ([40] ++ Lib.join gt [44, 32] ++ [41])) ++ [59]
  else Lib.join ns [44, 32] ++ [32, 61, 32] ++ ((nm ++ ([40] ++ Lib.join gt [44, 32] ++ [41])) ++ [59])
def St.first (x : St) : List UInt8 := firstT x.kind x.name x.names x.e.text x.a.text x.args.texts x.low x.high
def elseT : List UInt8 := [125, 32, 101, 108, 115, 101, 32, 123]
mutual
def St.lines : St → Nat → List (Nat × List UInt8)
  | .mk kd nm ns e a g lo hi bd el, t =>
    (t, firstT kd nm ns e.text a.text g.texts lo hi) :: (if kd = 3 ∨ kd = 4 ∨ kd = 5 then
      bd.lines (t + 1) ++ ((if el.len = 0 then [] else (t, elseT) :: el.lines (t + 1)) ++ [(t, [125])])
    else [])
def Sts.lines : Sts → Nat → List (Nat × List UInt8)
  | .nil, _ => []
  | .cons x r, t => x.lines t ++ r.lines t
end
def upL (x : Nat × List UInt8) : Nat × List UInt8 := (x.1 + 1, x.2)
mutual
theorem St.lines_up : ∀ (x : St) (t : Nat), x.lines (t + 1) = (x.lines t).map upL
  | .mk kd nm ns e a g lo hi bd el, t => by
    simp only [St.lines, List.map_cons]
    split
    · split
      · simp only [List.map_append, List.map_cons, List.map_nil, List.nil_append, Sts.lines_up bd (t + 1), upL]
      · simp only [List.map_append, List.map_cons, List.map_nil, Sts.lines_up bd (t + 1), Sts.lines_up el (t + 1), upL]
    · rfl
theorem Sts.lines_up : ∀ (l : Sts) (t : Nat), l.lines (t + 1) = (l.lines t).map upL
  | .nil, _ => rfl
  | .cons x r, t => by simp only [Sts.lines, List.map_append, St.lines_up x t, Sts.lines_up r t]
end

def Rgn.may (r : Rgn) : Bool := nameB r.name && (decide (0 ≤ r.addr) && decide (0 ≤ r.size))
def Vr.mayP (v : Vr) : Bool := nameB v.name && (decide (v.kind = 1) && decide (v.size = 0))
def Vr.may (v : Vr) : Bool := if v.kind = 1 then v.mayP && !v.secret else if v.kind = 2 ∨ v.kind = 3 then nameB v.name && decide (0 ≤ v.size) else false
def Fnc.may (f : Fnc) : Bool := nameB f.name && (f.params.all Vr.mayP && (f.vars.all Vr.may && (namesB f.rets && f.body.can)))
def Prg.may (p : Prg) : Bool := p.regs.all Rgn.may && p.fns.all Fnc.may
def Rgn.line (r : Rgn) : List UInt8 := [114, 101, 103, 105, 111, 110, 32] ++ r.name ++ [32] ++ Lib.decDigits r.addr.toNat ++ [32] ++ Lib.decDigits r.size.toNat ++ secT r.secret ++ [59]
def Vr.word (v : Vr) : List UInt8 := if v.kind = 2 then [97, 114, 114, 97, 121, 32] else [115, 116, 97, 99, 107, 32]
def Vr.line (v : Vr) : List UInt8 := if v.kind = 1 then [118, 97, 114, 32] ++ v.name ++ [59] else v.word ++ v.name ++ [32] ++ Lib.decDigits v.size.toNat ++ secT v.secret ++ [59]
def Vr.param (v : Vr) : List UInt8 := v.name ++ secT v.secret
def Fnc.head (f : Fnc) : List UInt8 := ([102, 110, 32] ++ f.name ++ [40] ++ Lib.join (f.params.map Vr.param) [44, 32] ++ [41]) ++ (if f.rets.length = 0 then [] else [32, 45, 62, 32] ++ Lib.join f.rets [44, 32]) ++ [32, 123]
def Fnc.lines (f : Fnc) : List (Nat × List UInt8) := (0, f.head) :: (f.vars.map (fun v => (1, v.line)) ++ (f.body.lines 1 ++ [(0, [125])]))
def Prg.lines (p : Prg) : List (Nat × List UInt8) := p.regs.map (fun r => (0, r.line)) ++ p.fns.flatMap Fnc.lines
/-- lines as a text -/
def lineT (x : Nat × List UInt8) : List UInt8 := List.replicate x.1 9 ++ (x.2 ++ [10])
def linesT (l : List (Nat × List UInt8)) : List UInt8 := l.flatMap lineT
def Prg.text (p : Prg) : List UInt8 := linesT p.lines

theorem st_may_1 (nm : List UInt8) (ns : List (List UInt8)) (e a : Ex) (g : Exs) (lo hi : Nat) (bd el : Sts) : (St.mk 1 nm ns e a g lo hi bd el).may = ((nameB nm && e.may) && (St.mk 0 [] ns E0 a g lo hi bd el).isZero) := by simp [St.may, restSt]
theorem st_may_2 (nm : List UInt8) (ns : List (List UInt8)) (e a : Ex) (g : Exs) (lo hi : Nat) (bd el : Sts) : (St.mk 2 nm ns e a g lo hi bd el).may = ((nameB nm && (a.may && e.may)) && (St.mk 0 [] ns E0 E0 g lo hi bd el).isZero) := by simp [St.may, restSt]
theorem st_may_3 (nm : List UInt8) (ns : List (List UInt8)) (e a : Ex) (g : Exs) (lo hi : Nat) (bd el : Sts) : (St.mk 3 nm ns e a g lo hi bd el).may = ((e.may && (bd.may && el.may)) && (St.mk 0 nm ns E0 a g lo hi .nil .nil).isZero) := by simp [St.may, restSt]
theorem st_may_4 (nm : List UInt8) (ns : List (List UInt8)) (e a : Ex) (g : Exs) (lo hi : Nat) (bd el : Sts) : (St.mk 4 nm ns e a g lo hi bd el).may = ((e.may && bd.may) && (St.mk 0 nm ns E0 a g lo hi .nil el).isZero) := by simp [St.may, restSt]
theorem st_may_5 (nm : List UInt8) (ns : List (List UInt8)) (e a : Ex) (g : Exs) (lo hi : Nat) (bd el : Sts) : (St.mk 5 nm ns e a g lo hi bd el).may = ((nameB nm && bd.may) && (St.mk 0 [] ns e a g 0 0 .nil el).isZero) := by simp [St.may, restSt]
theorem st_may_6 (nm : List UInt8) (ns : List (List UInt8)) (e a : Ex) (g : Exs) (lo hi : Nat) (bd el : Sts) : (St.mk 6 nm ns e a g lo hi bd el).may = ((nameB nm && (namesB ns && g.may)) && (St.mk 0 [] [] e a .nil lo hi bd el).isZero) := by simp [St.may, restSt]
theorem st_may_no (kd : Int) (h : kd < 1 ∨ 6 < kd) (nm : List UInt8) (ns : List (List UInt8)) (e a : Ex) (g : Exs) (lo hi : Nat) (bd el : Sts) : (St.mk kd nm ns e a g lo hi bd el).may = false := by
  rw [St.may, if_neg (by omega), if_neg (by omega), if_neg (by omega), if_neg (by omega), if_neg (by omega), if_neg (by omega)]; rfl
end Go.Proofs.YtkjhofnkgcjcoaaDoor
