/- T8, Z1, L2 as one. -/
import Derived.Test.YtcadeeldogknmaaT5
import Derived.Test.YtcadeeldogknmaaT3
/- How deep terms nest, and how many there are. -/
namespace Go.Proofs.Ytcadeeldogknmaa
open Go.RowKit

def linesW : List (List Pk) → Nat
  | [] => 0
  | l :: ls => 1 + l.length + linesW ls
mutual
def Tf.weight : Tf → Nat
  | .nil => 0
  | .node _ ls _ s r => 1 + linesW ls + s.weight + r.weight
def Ts.weight : Ts → Nat
  | .nil => 0
  | .sub l r => l.weight + r.weight
end

mutual
theorem Tf.deep_le : ∀ l : Tf, l.deep ≤ l.weight
  | .nil => Nat.le_refl _
  | .node _ ls _ s r => by
    have := Ts.deep_le s
    have := Tf.deep_le r
    simp only [Tf.deep, Tf.weight]; omega
theorem Ts.deep_le : ∀ l : Ts, l.deep ≤ l.weight
  | .nil => Nat.le_refl _
  | .sub l r => by
    have := Tf.deep_le l
    have := Ts.deep_le r
    simp only [Ts.deep, Ts.weight]; omega
end
def DeepTo (n : Nat) : Prop := ∀ (l : Tf), l.size < n → ∀ (p : Option Addr) (cap N : Nat) (w : World), l.In w N p → N ≤ w.heap.size → l.weight ≤ 1000000000 →
    Calls Try.prog 14 #[.slice p l.len cap] w fun e w' => e = .returned (.tuple #[.int .i64 l.deep, .int .i64 l.weight]) ∧ Below w.heap.size w w'

set_option maxHeartbeats 3200000 in
theorem deep_step (n : Nat) (ih : DeepTo n) : DeepTo (n + 1) := by
  intro l hsz p cap N w h hN hwt
  have IH := Lib.hid ih
  clear ih
  have S0 := Lib.hid h
  have hm := h.1
  clear h
  go_enter Try.func14, Try.ntmps14
  go_wp2_with fail
  go_loopw [4, 5, 6] (fun g m i wr => ∃ (k : Nat) (r : Tf) (dm dn : Nat), g = .int .i64 dm ∧ m = .int .i64 dn ∧ i = .int .i64 k ∧ k + r.len = l.len ∧ r.size ≤ n ∧ Hid (∀ b o, p = some ⟨b, o, none⟩ → l.At w N b o → r.At w N b (o + k * 4)) ∧ Hid (l.deep = max dm r.deep) ∧ l.weight = dn + r.weight ∧ Hid (Below w.heap.size w wr))
    (fun _ _ i _ => l.len - (intOf i).toNat)
  case atStart => exact ⟨0, l, 0, 0, rfl, rfl, rfl, by omega, by omega, Lib.hid fun b o _ h => by rw [Nat.zero_mul]; exact h, Lib.hid (by simp), by simp, Lib.hid (Below.refl _ _)⟩
  case round =>
    obtain ⟨k, r, dm, dn, rfl, rfl, rfl, hk, hrs, hat, ED, EW, hB⟩ := hrel
    cases r with
    | nil =>
      simp only [Tf.len] at hk
      simp only [Tf.weight] at EW
      have hge : ¬ k < l.len := by omega
      have HB := Lib.hid (show l.deep = dm ∧ l.weight = dn from ⟨by rw [ED.out]; simp [Tf.deep], by omega⟩)
      go_wp2_with fail
      go_ret2
      exact ⟨by rw [HB.out.1, HB.out.2]; rfl, hB.out⟩
    | node kd ls t s r =>
      simp only [Tf.len] at hk
      simp only [Tf.size] at hrs
      simp only [Tf.weight] at EW
      have hlt : k < l.len := by omega
      rcases S0.out.2 with h30 | ⟨b, o, rfl, hb, ha⟩
      · omega
      obtain ⟨g0, ⟨q, cq, g1, s1⟩, g2, ⟨q3, d, g3, s3⟩, hr⟩ := hat.out b o rfl ha
      have f1 := (hB.out.cell (show b < w.heap.size by omega)).trans g1
      have f3 := (hB.out.cell (show b < w.heap.size by omega)).trans g3
      have HQ := Lib.hid hr
      have S3 := Lib.hid s3
      have hm3 := s3.1
      have S1 := Lib.hid s1
      have hm1 := s1.1
      clear hr ha s1 s3 g0 g2
      go_wp2_with fail
      go_loopw [5, 8] (fun g i wr' => ∃ (ds rs : List (List Pk)) (dn2 : Nat), g = .int .i64 dn2 ∧ i = .int .i64 ds.length ∧ ds.length + rs.length = ls.length ∧ Hid (ls = ds ++ rs) ∧ l.weight = dn2 + linesW rs + s.weight + r.weight ∧ wr' = wr)
        (fun _ i _ => ls.length - (intOf i).toNat)
      case atStart => exact ⟨[], ls, dn + 1, by go_num, rfl, by simp, Lib.hid rfl, by omega, rfl⟩
      case round =>
        obtain ⟨ds, rs, dn2, rfl, rfl, hj2, hE2, hw2, rfl⟩ := hrel
        cases rs with
        | nil =>
          simp only [List.length_nil] at hj2
          simp only [linesW] at hw2
          have hge : ¬ ds.length < ls.length := by omega
          go_wp2_with fail
          clear hE2
          go_loopw [5, 7, 9] (fun g h i wr' => ∃ (j : Nat) (z : Ts) (dn3 hh : Nat), g = .int .i64 dn3 ∧ h = .int .i64 hh ∧ i = .int .i64 j ∧ j + z.len = s.len ∧ z.size ≤ s.size ∧ Hid (∀ b o, q3 = some ⟨b, o, none⟩ → s.At w N b o → z.At w N b (o + j)) ∧
              l.weight = dn3 + z.weight + r.weight ∧ Hid (1 + s.deep = max hh (1 + z.deep)) ∧ Hid (1 ≤ hh) ∧ hh ≤ 1000000001 ∧ Hid (Below w.heap.size w wr'))
            (fun _ _ i _ => s.len - (intOf i).toNat)
          case atStart => exact ⟨0, s, dn2, 1, rfl, rfl, rfl, by omega, Nat.le_refl _, Lib.hid fun b o _ h => h, by omega, Lib.hid (by omega), Lib.hid (Nat.le_refl _), by omega, hB⟩
          case round =>
            clear f1 f3 hB hw2 EW
            obtain ⟨j, z, dn3, hh, rfl, rfl, rfl, hj3, hzs, hzat, hw3, E3, hh1, hh2, hB⟩ := hrel
            have f1 := (hB.out.cell (show b < w.heap.size by omega)).trans g1
            have f3 := (hB.out.cell (show b < w.heap.size by omega)).trans g3
            cases z with
            | nil =>
              simp only [Ts.len] at hj3
              simp only [Ts.weight] at hw3
              have hge : ¬ j < s.len := by omega
              have E4 := Lib.hid (show l.deep = max dm (max hh r.deep) by
                have h1 := ED.out; have h2 := E3.out; have h3 := hh1.out
                simp only [Tf.deep, Ts.deep] at h1 h2; omega)
              go_wp2_with fail
              · go_roundw
                case rel => exact ⟨k + 1, r, hh, dn3, rfl, rfl, by go_num, by omega, by omega, Lib.hid fun b' o' hbo _ => by cases hbo; exact At_stepT HQ.out, Lib.hid (by rw [E4.out]; omega), by omega, hB⟩
                case measure => simp [intOf]; omega
              · go_roundw
                case rel => exact ⟨k + 1, r, dm, dn3, rfl, rfl, by go_num, by omega, by omega, Lib.hid fun b' o' hbo _ => by cases hbo; exact At_stepT HQ.out, Lib.hid (by rw [E4.out]; omega), by omega, hB⟩
                case measure => simp [intOf]; omega
            | sub l2 r2 =>
              rcases S3.out.2 with h30 | ⟨b3, o3, rfl, hb3, ha3⟩
              · simp only [Ts.len] at hj3; omega
              obtain ⟨⟨q4, c4, g4, s4⟩, hzz⟩ := hzat.out b3 o3 rfl ha3
              simp only [Ts.len] at hj3
              simp only [Ts.size] at hzs
              simp only [Ts.weight] at hw3
              have hlt3 : j < s.len := by omega
              have f4 := (hB.out.cell (show b3 < w.heap.size by omega)).trans g4
              have HR := Lib.hid (IH.out l2 (by omega) q4 c4 N _ (s4.imp (Nat.le_refl _) fun b' o' hb' ha' => Tf.At.later (hB.out.mono hN) (Nat.le_refl _) _ _ _ hb' ha') (Nat.le_trans hN hB.out.size) (by omega))
              have HZ := Lib.hid hzz
              have hdl := Tf.deep_le l2
              have hdl2 : l2.deep ≤ 1000000000 := by omega
              clear g4 s4 hzz ha3
              go_wp2_with (go_at_call 14; refine HR.out.mono ?_; rintro e w1 ⟨rfl, hB1⟩)
              · go_roundw
                case rel => exact ⟨j + 1, r2, dn3 + l2.weight, l2.deep + 1, by go_num, by go_num, by go_num, by omega, by omega, Lib.hid fun b' o' hbo _ => by cases hbo; exact HZ.out, by omega,
                  Lib.hid (by have h2 := E3.out; simp only [Ts.deep] at h2; omega), Lib.hid (by omega), by omega, Lib.hid (hB.out.trans (hB1.mono hB.out.size))⟩
                case measure => simp [intOf]; omega
              · go_roundw
                case rel => exact ⟨j + 1, r2, dn3 + l2.weight, hh, by go_num, rfl, by go_num, by omega, by omega, Lib.hid fun b' o' hbo _ => by cases hbo; exact HZ.out, by omega,
                  Lib.hid (by have h2 := E3.out; simp only [Ts.deep] at h2; omega), hh1, hh2, Lib.hid (hB.out.trans (hB1.mono hB.out.size))⟩
                case measure => simp [intOf]; omega
        | cons x rs =>
          simp only [List.length_cons] at hj2
          simp only [linesW] at hw2
          have hlt2 : ds.length < ls.length := by omega
          rcases S1.out.2 with h31 | ⟨b1, o1, rfl, hb1, ha1⟩
          · omega
          rw [hE2.out] at ha1
          obtain ⟨⟨q5, c5, g5, s5⟩, _⟩ := Plines.drop _ _ _ _ ha1
          have f5 := (hB.out.cell (show b1 < w.heap.size by omega)).trans g5
          have hxl := s5.1
          clear ha1 g5 s5
          go_wp2_with fail
          go_roundw
          case rel => exact ⟨ds ++ [x], rs, dn2 + 1 + x.length, by go_num, by rw [List.length_append]; go_num, by simp; omega, Lib.hid (by rw [hE2.out]; simp), by omega, trivial⟩
          case measure => simp [intOf]; omega

theorem deep_to : ∀ n, DeepTo n
  | 0 => fun _ h => absurd h (Nat.not_lt_zero _)
  | n + 1 => deep_step n (deep_to n)

set_option maxHeartbeats 1600000 in
theorem small_any (l : Tf) (p : Option Addr) (cap N : Nat) (w : World) (h : l.In w N p) (hN : N ≤ w.heap.size) (hw : l.weight ≤ 1000000000) :
    Calls Try.prog 6 #[.slice p l.len cap] w fun e w' => e = .returned (.bool (decide (l.deep ≤ 60) && decide (l.weight ≤ 3000))) ∧ Below w.heap.size w w' := by
  have HD := Lib.hid (deep_to _ l (Nat.lt_succ_self _) p cap N w h hN hw)
  clear h
  go_enter Try.func6, Try.ntmps6
  go_wp2_with (go_at_call 14; refine HD.out.mono ?_; rintro e w1 ⟨rfl, hB⟩)
  all_goals go_ret
  all_goals exact ⟨ret_bool (by apply bool_of; simp; omega), hB⟩
end Go.Proofs.Ytcadeeldogknmaa
/- What a rewriting comes to, plainly. -/
namespace Go.Proofs.Ytcadeeldogknmaa
open Go.RowKit

mutual
/-- terms made ready -/
inductive Rc where
  | nil
  | node (k : Int) (t : Bool) (ls bl : List (List Pk)) (subs : Rs) (rest : Rc)
inductive Rs where
  | nil
  | sub (l : Rc) (rest : Rs)
end
def Rc.len : Rc → Nat
  | .nil => 0
  | .node _ _ _ _ _ r => r.len + 1
def Rs.len : Rs → Nat
  | .nil => 0
  | .sub _ r => r.len + 1
def Rs.take1 : Rs → Rs
  | .nil => .nil
  | .sub l _ => .sub l .nil
def Rs.first : Rs → Rc
  | .nil => .nil
  | .sub l _ => l
def Rs.second : Rs → Rc
  | .sub _ (.sub l _) => l
  | _ => .nil
def Tf.lines : Tf → List (List Pk)
  | .nil => []
  | .node _ ls _ _ r => ls ++ r.lines
def Ts.behind : Ts → List (List Pk)
  | .sub _ (.sub l _) => l.lines
  | _ => []
mutual
def Tf.rc : Tf → Rc
  | .nil => .nil
  | .node k ls t s r => .node k t ls (if k = 7 then s.behind else []) (if k = 7 then s.rs.take1 else s.rs) r.rc
def Ts.rs : Ts → Rs
  | .nil => .nil
  | .sub l r => .sub l.rc r.rs
end
theorem Tf.rc_len : ∀ t : Tf, t.rc.len = t.len
  | .nil => rfl
  | .node k ls t s r => by rw [Tf.rc, Rc.len, Tf.len, Tf.rc_len r]
def Lf.cat : Lf → Lf → Lf
  | .nil, m => m
  | .node k is t s r, m => .node k is t s (r.cat m)
def Ls.cat : Ls → Ls → Ls
  | .nil, m => m
  | .sub l r, m => .sub l (r.cat m)
theorem Lf.cat_nil : ∀ l : Lf, l.cat .nil = l
  | .nil => rfl
  | .node k is t s r => by rw [Lf.cat, Lf.cat_nil r]
theorem Lf.cat_assoc : ∀ a b c : Lf, (a.cat b).cat c = a.cat (b.cat c)
  | .nil, _, _ => rfl
  | .node k is t s r, b, c => by rw [Lf.cat, Lf.cat, Lf.cat, Lf.cat_assoc r b c]
theorem Lf.cat_len : ∀ a b : Lf, (a.cat b).len = a.len + b.len
  | .nil, b => by simp [Lf.cat, Lf.len]
  | .node k is t s r, b => by rw [Lf.cat, Lf.len, Lf.len, Lf.cat_len r b]; omega
theorem Ls.cat_len : ∀ a b : Ls, (a.cat b).len = a.len + b.len
  | .nil, b => by simp [Ls.cat, Ls.len]
  | .sub l r, b => by rw [Ls.cat, Ls.len, Ls.len, Ls.cat_len r b]; omega
theorem Ls.cat_nil : ∀ l : Ls, l.cat .nil = l
  | .nil => rfl
  | .sub l r => by rw [Ls.cat, Ls.cat_nil r]
theorem Ls.cat_assoc : ∀ a b c : Ls, (a.cat b).cat c = a.cat (b.cat c)
  | .nil, _, _ => rfl
  | .sub l r, b, c => by rw [Ls.cat, Ls.cat, Ls.cat, Ls.cat_assoc r b c]

/-- a pick of a node's items -/
def picked (st : Int) (is : List Int) (p : Pk) : Int :=
  if p.kind = 1 then is.getD p.item.toNat 0
  else if p.kind = 3 then
    if p.stack then IntKind.u64.wrap (IntKind.u64.wrap (p.word + IntKind.u64.wrap (8 * is.getD p.item.toNat 0)) + st) else IntKind.u64.wrap (p.word + IntKind.u64.wrap (8 * is.getD p.item.toNat 0))
  else if p.kind = 4 then if p.stack then IntKind.u64.wrap (p.word + st) else p.word
  else p.word
def linesLf (st : Int) (is : List Int) : List (List Pk) → Lf
  | [] => .nil
  | l :: r => .node 1 (l.map (picked st is)) false .nil (linesLf st is r)
/-- lines laid, if they fit, and how many there should be by then -/
def layR (st : Int) (ls : List (List Pk)) (is : List Int) (m : Nat) : Option (Lf × Nat) :=
  if greatestL ls < (is.length : Int) then some (if 1000000 < m + linesW ls then .nil else linesLf st is ls, m + linesW ls) else none
def asMany (n m : Nat) (br : Bool) : Bool := decide (m = n) || (br && decide (m < n))
/-- one behind the other -/
def then2 (a : Option (Lf × Nat)) (f : Nat → Option (Lf × Nat)) : Option (Lf × Nat) :=
  match a with
  | none => none
  | some (x, m) => match f m with
    | none => none
    | some (y, m') => some (x.cat y, m')
/-- lines, then a branch -/
def askR (st : Int) (ls : List (List Pk)) (xi : List Int) (xt : Bool) (m : Nat) (f : Nat → Option (Lf × Nat)) : Option (Lf × Nat) :=
  then2 (layR st ls xi m) fun m1 => match f m1 with
    | none => none
    | some (c, m2) => some (.node 2 (if ls.isEmpty then xi else []) xt (.sub c .nil) .nil, m2)
mutual
/-- a list of nodes, each by the term at its place -/
def Lf.go (st : Int) : Lf → Rc → Bool → Nat → Option (Lf × Nat)
  | .nil, _, _, m => some (.nil, m)
  | .node xk xi xt xs r, .node k t ls bl subs tr, br, m =>
    then2 (if k = 1 then some (.node xk xi xt xs .nil, m)
      else if k = 2 then layR st ls xi m
      else if k = 3 then if xk = 2 then askR st ls xi xt m (fun m => Ls.goFirst st xs (if xt then subs.first else subs.second) (br && r.len == 0) m) else none
      else if k = 4 then if xk = 2 ∧ xt = t then then2 (layR st ls xi m) (fun m => Ls.goFirst st xs subs.first (br && r.len == 0) m) else none
      else if k = 5 then if xk = 3 then Ls.goLoop st xs ls subs.first (br && r.len == 0) m else none
      else if k = 6 then if xk = 4 ∧ asMany subs.len xs.len (br && r.len == 0) = true then Ls.goRounds st xs subs (br && r.len == 0) m else none
      else if k = 7 then if xk = 5 then then2 (layR st ls xi m) (fun m => Ls.goCall st xs bl subs.first (br && r.len == 0) m) else none
      else if k = 8 then some (.nil, m)
      else if k = 9 then if xk = 4 then (match Ls.goEach st xs subs.first (br && r.len == 0) m with | none => none | some (c, m2) => some (.node 4 [] false c .nil, m2)) else none
      else none) (fun m => Lf.go st r tr br m)
  | .node _ _ _ _ _, .nil, _, _ => none
/-- the asked list of a loop -/
def Lf.goAsk (st : Int) : Lf → List (List Pk) → Rc → Bool → Nat → Option (Lf × Nat)
  | .nil, _, _, _, m => some (.nil, m)
  | .node xk xi xt xs r, ls, sub, br, m =>
    then2 (if xk = 1 then some (.node xk xi xt xs .nil, m)
      else if xt = true then askR st ls xi xt m (fun m => Ls.goFirst st xs sub (br && r.len == 0) m)
      else askR st ls xi xt m (fun m => Ls.goFirst st xs .nil false m)) (fun m => Lf.goAsk st r ls sub br m)
/-- the first list -/
def Ls.goFirst (st : Int) : Ls → Rc → Bool → Nat → Option (Lf × Nat)
  | .nil, _, _, _ => none
  | .sub l _, t, br, m => if asMany t.len l.len br = true then Lf.go st l t br m else none
def Ls.goLoop (st : Int) : Ls → List (List Pk) → Rc → Bool → Nat → Option (Lf × Nat)
  | .nil, _, _, _, _ => none
  | .sub l _, ls, t, br, m => match Lf.goAsk st l ls t br m with
    | none => none
    | some (c, m2) => some (.node 3 [] false (.sub c .nil) .nil, m2)
def Ls.goCall (st : Int) : Ls → List (List Pk) → Rc → Bool → Nat → Option (Lf × Nat)
  | .nil, _, _, _, _ => none
  | .sub l _, bl, t, br, m => then2 (if asMany t.len l.len br = true then Lf.go st l t br m else none) fun m => if l.len < t.len then some (.nil, m) else layR st bl [] m
def Ls.goRounds (st : Int) : Ls → Rs → Bool → Nat → Option (Lf × Nat)
  | .nil, _, _, m => some (.nil, m)
  | .sub l r, .sub t tr, br, m => then2 (if asMany t.len l.len (br && r.len == 0) = true then Lf.go st l t (br && r.len == 0) m else none) fun m => Ls.goRounds st r tr br m
  | .sub _ _, .nil, _, _ => none
def Ls.goEach (st : Int) : Ls → Rc → Bool → Nat → Option (Ls × Nat)
  | .nil, _, _, m => some (.nil, m)
  | .sub l r, t, br, m => match (if asMany t.len l.len (br && r.len == 0) = true then Lf.go st l t (br && r.len == 0) m else none) with
    | none => none
    | some (c, m1) => match Ls.goEach st r t br m1 with
      | none => none
      | some (cs, m2) => some (.sub c cs, m2)
end
def Lf.rw (st : Int) (l : Lf) (t : Rc) (br : Bool) (m : Nat) : Option (Lf × Nat) := if asMany t.len l.len br = true then l.go st t br m else none
end Go.Proofs.Ytcadeeldogknmaa
/- What the program asks of leakage: is it as its kinds say? -/
namespace Go.Proofs.Ytcadeeldogknmaa
open Go.RowKit

def Ls.empty : Ls → Bool
  | .nil => true
  | .sub l r => l.len == 0 && r.empty

theorem At_step {N b o k : Nat} {r : Lf} {w : World} (h : r.At w N b (o + k * 4 + 4)) : r.At w N b (o + (k + 1) * 4) := by
  rw [show o + (k + 1) * 4 = o + k * 4 + 4 by omega]; exact h

set_option maxHeartbeats 1600000 in
theorem isEmpty_any (s : Ls) (p : Option Addr) (cap N : Nat) (w : World) (h : s.In w N p) :
    Calls Try.prog 61 #[.slice p s.len cap] w fun e w' => e = .returned (.bool s.empty) ∧ w = w' := by
  rcases h with ⟨hm, h0 | ⟨b, o, rfl, hb, ha⟩⟩
  · go_enter Try.func61, Try.ntmps61
    go_wp2_with fail
    go_loopw [7] (fun i wr => i = .int .i64 0 ∧ wr = w) (fun i _ => 0)
    case atStart => exact ⟨rfl, rfl⟩
    case round =>
      obtain ⟨rfl, rfl⟩ := hrel
      have hge : ¬ 0 < s.len := by omega
      go_wp2_with fail
      go_ret
      exact ⟨ret_bool (by cases s with | nil => rfl | sub l r => simp [Ls.len] at h0), rfl⟩
  · go_enter Try.func61, Try.ntmps61
    go_wp2_with fail
    go_loopw [7] (fun i wr => ∃ (k : Nat) (r : Ls), i = .int .i64 k ∧ k + r.len = s.len ∧ r.At w N b (o + k) ∧ s.empty = r.empty ∧ wr = w)
      (fun i _ => s.len - (intOf i).toNat)
    case atStart => exact ⟨0, s, rfl, by omega, ha, rfl, rfl⟩
    case round =>
      obtain ⟨k, r, rfl, hk, hr, he, rfl⟩ := hrel
      have E := Lib.hid he
      clear he
      cases r with
      | nil =>
        simp only [Ls.len] at hk
        have hge : ¬ k < s.len := by omega
        go_wp2_with fail
        go_ret
        exact ⟨ret_bool E.out.symm, rfl⟩
      | sub l r =>
        obtain ⟨⟨q, c, hq, hl⟩, hr⟩ := hr
        simp only [Ls.len] at hk
        have hlt : k < s.len := by omega
        go_wp2_with fail
        · go_ret
          exact ⟨ret_bool (by rw [E.out]; simp [Ls.empty]; omega), rfl⟩
        · go_roundw
          case rel =>
            have h0 : l.len = 0 := by omega
            exact ⟨k + 1, r, by go_num, by omega, hr, by rw [E.out]; simp [Ls.empty, h0], trivial⟩
          case measure => simp [intOf]; omega

def Lf.asks : Lf → Bool
  | .nil => true
  | .node k _ t s r => (k == 1 || (k == 2 && (t || (r.len == 0 && s.empty)))) && r.asks

def fieldsOk (k : Int) (ni : Nat) (t : Bool) (ns : Nat) : Bool :=
  if k = 3 then ni == 0 && !t && ns == 1
  else if k = 5 then !t && ns == 1
  else if k = 2 then ns == 1
  else if k = 1 then ns == 0 && !t
  else if k = 4 then ni == 0 && !t
  else false

set_option maxHeartbeats 1600000 in
theorem hasFields_any (k : Int) (p q : Option Addr) (ni c : Nat) (t : Bool) (ns d : Nat) (b o : Nat) (w : World)
    (h0 : w.cell? ⟨b, o, none⟩ = some (.int .i64 k)) (h1 : w.cell? ⟨b, o + 1, none⟩ = some (.slice p ni c))
    (h2 : w.cell? ⟨b, o + 2, none⟩ = some (.bool t)) (h3 : w.cell? ⟨b, o + 3, none⟩ = some (.slice q ns d)) :
    Calls Try.prog 54 #[.pointer (some ⟨b, o, none⟩)] w fun e w' => e = .returned (.bool (fieldsOk k ni t ns)) ∧ w = w' := by
  go_enter Try.func54, Try.ntmps54
  go_wp2_with fail
  all_goals go_ret
  all_goals refine ⟨ret_bool ?_, rfl⟩
  all_goals (apply bool_of; simp_all [fieldsOk]; try omega)

set_option maxHeartbeats 1600000 in
theorem asks_any (l : Lf) (p : Option Addr) (cap N : Nat) (w : World) (h : l.In w N p) :
    Calls Try.prog 55 #[.slice p l.len cap] w fun e w' => e = .returned (.bool l.asks) ∧ w = w' := by
  rcases h with ⟨hm, h0 | ⟨b, o, rfl, hb, ha⟩⟩
  · go_enter Try.func55, Try.ntmps55
    go_wp2_with fail
    go_loopw [6] (fun i wr => i = .int .i64 0 ∧ wr = w) (fun i _ => 0)
    case atStart => exact ⟨rfl, rfl⟩
    case round =>
      obtain ⟨rfl, rfl⟩ := hrel
      have hge : ¬ 0 < l.len := by omega
      go_wp2_with fail
      go_ret
      exact ⟨ret_bool (by cases l with | nil => rfl | node => simp [Lf.len] at h0), rfl⟩
  · go_enter Try.func55, Try.ntmps55
    go_wp2_with fail
    go_loopw [6] (fun i wr => ∃ (k : Nat) (r : Lf), i = .int .i64 k ∧ k + r.len = l.len ∧ r.At w N b (o + k * 4) ∧ l.asks = r.asks ∧ wr = w)
      (fun i _ => l.len - (intOf i).toNat)
    case atStart => exact ⟨0, l, rfl, by omega, by rw [Nat.zero_mul]; exact ha, rfl, rfl⟩
    case round =>
      obtain ⟨k, r, rfl, hk, hr, he, rfl⟩ := hrel
      have E := Lib.hid he
      clear he
      cases r with
      | nil =>
        simp only [Lf.len] at hk
        have hge : ¬ k < l.len := by omega
        go_wp2_with fail
        go_ret
        exact ⟨ret_bool E.out.symm, rfl⟩
      | node kd is t s r =>
        obtain ⟨g0, ⟨q, c, g1, s1⟩, g2, ⟨q3, d, g3, s3⟩, hr⟩ := hr
        have H3 := Lib.hid s3
        clear s3 s1
        simp only [Lf.len] at hk
        have hlt : k < l.len := by omega
        go_wp2_with (go_at_call 61; refine (isEmpty_any s q3 d N _ H3.out).mono ?_; rintro e w' ⟨rfl, rfl⟩)
        all_goals first
          | (go_ret; refine ⟨ret_bool ?_, rfl⟩; rw [E.out]; apply bool_of; simp_all [Lf.asks] <;> first | omega | (intro hz hs; simp_all; omega))
          | (go_roundw
             case rel => refine ⟨k + 1, r, by go_num, by omega, At_step hr, ?_, trivial⟩; rw [E.out]; apply bool_of; (try have hz : r.len = 0 := by omega); simp_all [Lf.asks]
             case measure => simp [intOf]; omega)
end Go.Proofs.Ytcadeeldogknmaa
