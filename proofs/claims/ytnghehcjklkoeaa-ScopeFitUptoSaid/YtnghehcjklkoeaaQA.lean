/- How much a program has; an append's run. -/
import Derived.Test.YtnghehcjklkoeaaF1
import Derived.Test.YtnghehcjklkoeaaJ7
import Derived.Test.YtnghehcjklkoeaaH2
import Derived.Deep.RegionHeld
import Derived.Deep.RegionHeld3
import Derived.WalkMore
import Derived.Deep.CutBlock
import Derived.Deep.CutRange
import Derived.Outline
namespace Go.Proofs.Ytnghehcjklkoeaa
open Go.RowKit

mutual
def St.big : St → Nat
  | .mk _ _ ns e a g _ _ bd el => 1 + ns.length + e.size + a.size + g.size + bd.big + el.big
def Sts.big : Sts → Nat
  | .nil => 0
  | .cons x r => x.big + r.big
end
theorem St.big_eq (x : St) : x.big = 1 + x.names.length + x.e.size + x.a.size + x.args.size + x.body.big + x.els.big := by obtain ⟨kd, nm, ns, e, a, as', lo, hi, bd, el⟩ := x; rw [St.big]; rfl
/-- an append to a row of the call's own: the run's equation -/
theorem run_app {P : Program} (w : World) (base : Nat) (t ty e : TypeId) (i : TypeInfo) (z : Value) (size bytes : Nat) (ht : P.underlying t = some (.slice e)) (hi : P.info? e = some i) (hz : i.zero = some z)
    (hsize : i.size = size) (hby : i.bytes = bytes) (hzs : z.cells.size = size) (hsz : 0 < size)
    (v : Value) (n : Nat) (xs : List Value) (hown : w.ownsRow base e size v n xs) (p : Option Addr) (m c : Nat) (news : List Value) (hsrc : Src w size p m news) (h1 : ∀ u ∈ news, u.oneCell' = true)
    (h63 : n + m ≤ maxLen) (hbytes : (n + m) * bytes ≤ 140737488355328) (hbase : base ≤ w.heap.size) :
    ∃ v' w', (Builtin.append_ #[t, t] ty #[v, .slice p m c]).run P w = .ok v' w' ∧ w'.ownsRow base e size v' (n + m) (xs ++ news) ∧ w.grownBy w' v.ownBlock := by
  obtain ⟨hl, rfl | ⟨b', o', rfl, hc⟩⟩ := hsrc
  · have : news = [] := List.eq_nil_of_length_eq_zero (by simpa using hl)
    subst this
    exact ⟨v, w, run_append_empty base t ty e i size ht hi v n xs hown p c, by simpa using hown, World.grownBy.refl w _⟩
  · obtain ⟨v', w', h1, h2, h3, _⟩ := run_append_own (P := P) w base t ty e i z size bytes ht hi hz hsize hby hzs hsz v n xs hown ⟨b', o', none⟩ m c news hl (fun j u hu => by rw [add_of]; exact hc j u hu) h1 h63 hbytes hbase
    exact ⟨v', w', h1, h2, h3⟩

/-- how much a program has -/
def fnsBig : List Fnc → Nat
  | [] => 0
  | f :: r => f.body.big + f.params.length + f.vars.length + f.rets.length + 1 + fnsBig r
theorem fnsBig_mem : ∀ (l : List Fnc) (f : Fnc), f ∈ l → f.body.big + f.params.length + f.vars.length + f.rets.length + 1 ≤ fnsBig l
  | [], f, h => by cases h
  | g :: r, f, h => by
    rw [fnsBig]
    rcases List.mem_cons.1 h with rfl | h
    · omega
    · have := fnsBig_mem r f h; omega
theorem fnsBig_len : ∀ l : List Fnc, l.length ≤ fnsBig l
  | [] => Nat.le_refl 0
  | f :: r => by rw [fnsBig, List.length_cons]; have := fnsBig_len r; omega
theorem wrapN (n : Nat) (h : n ≤ 9000000000) : IntKind.i64.wrap (n : Int) = (n : Int) := by simp [IntKind.wrap, IntKind.bits, IntKind.signed]; omega
theorem wrapS (a b : Nat) (h : a + b ≤ 9000000000) : IntKind.i64.wrap ((a : Int) + (b : Int)) = ((a + b : Nat) : Int) := by
  rw [show (a : Int) + (b : Int) = ((a + b : Nat) : Int) by omega]; exact wrapN _ h
theorem below_grown {B : Nat} {a w w' : World} {v : Value} {e : TypeId} {n size : Nat} {xs : List Value} (h : Below B a w) (hg : w.grownBy w' v.ownBlock) (hs : B ≤ w.heap.size) (hown : w.ownsRow B e size v n xs) : Below B a w' := h.grown hg hs (own_blk hown)
end Go.Proofs.Ytnghehcjklkoeaa
