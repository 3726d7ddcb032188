/- What is copied lies in new memory. -/
import Derived.Test.YtcadeeldogknmaaVK
import Derived.Test.YtcadeeldogknmaaVL
import Derived.Deep.CutBlock
import Derived.Deep.CutRange
import Derived.StillTailTactics
import Derived.Lib.AppendZeros
namespace Go.Proofs.Ytcadeeldogknmaa
open Go.RowKit

theorem add_of (b o j : Nat) : (⟨b, o, none⟩ : Addr).add j = ⟨b, o + j, none⟩ := by unfold Addr.add; split <;> simp_all
theorem lt_blk {w : World} {b : Nat} {x : Obj} (h : w.heap[b]? = some x) : b < w.heap.size := (Array.getElem?_eq_some_iff.1 h).1
theorem cell_blk {w : World} {b j : Nat} {cs : Array Value} {t : TypeId} {v : Value} {q : Nat × Nat} (h : w.heap[b]? = some (.cells cs t q)) (hv : cs[j]? = some v) : w.cell? ⟨b, j, none⟩ = some v := by simp [World.cell?, h, hv]
theorem run_append_empty {P : Program} {w : World} (base : Nat) (t ty e : TypeId) (i : TypeInfo) (size : Nat) (ht : P.underlying t = some (.slice e)) (hi : P.info? e = some i)
    (v : Value) (n : Nat) (xs : List Value) (hown : w.ownsRow base e size v n xs) (p : Option Addr) (c : Nat) :
    (Builtin.append_ #[t, t] ty #[v, .slice p 0 c]).run P w = .ok v w := by
  rcases hown.2 with ⟨rfl, rfl⟩ | ⟨g, cap, cur, rfl, _, _, hnc, _⟩ <;> cases p
  · simp [Builtin.append_, run_underlying ht, sizeOf, typeInfo, hi, Builtin.lenOf, Builtin.firstCells]
  · simp [Builtin.append_, run_underlying ht, sizeOf, typeInfo, hi, Builtin.lenOf, Builtin.firstCells, loadCells, loadCellsFrom]
  · simp [Builtin.append_, run_underlying ht, sizeOf, typeInfo, hi, Builtin.lenOf, Builtin.firstCells, hnc, storeCells]
  · simp [Builtin.append_, run_underlying ht, sizeOf, typeInfo, hi, Builtin.lenOf, Builtin.firstCells, hnc, storeCells, loadCells, loadCellsFrom]
/-- a slice's cells, as append reads them -/
def Src (w : World) (size : Nat) (p : Option Addr) (m : Nat) (news : List Value) : Prop :=
  news.length = m * size ∧ (m = 0 ∨ ∃ b o, p = some ⟨b, o, none⟩ ∧ ∀ j u, news[j]? = some u → w.cell? ⟨b, o + j, none⟩ = some u)
theorem run_app {P : Program} (w : World) (base : Nat) (t ty e : TypeId) (i : TypeInfo) (z : Value) (size bytes : Nat) (ht : P.underlying t = some (.slice e)) (hi : P.info? e = some i) (hz : i.zero = some z)
    (hsize : i.size = size) (hby : i.bytes = bytes) (hzs : z.cells.size = size) (hsz : 0 < size)
    (v : Value) (n : Nat) (xs : List Value) (hown : w.ownsRow base e size v n xs) (p : Option Addr) (m c : Nat) (news : List Value) (hsrc : Src w size p m news) (h1 : ∀ u ∈ news, u.oneCell' = true)
    (h63 : n + m ≤ maxLen) (hbytes : (n + m) * bytes ≤ 140737488355328) (hbase : base ≤ w.heap.size) :
    ∃ v' w', (Builtin.append_ #[t, t] ty #[v, .slice p m c]).run P w = .ok v' w' ∧ w'.ownsRow base e size v' (n + m) (xs ++ news) ∧ w.grownBy w' v.ownBlock ∧ (v'.ownBlock = v.ownBlock ∨ v'.ownBlock = some w.heap.size) := by
  obtain ⟨hl, rfl | ⟨b', o', rfl, hc⟩⟩ := hsrc
  · have : news = [] := List.eq_nil_of_length_eq_zero (by simpa using hl)
    subst this
    exact ⟨v, w, run_append_empty base t ty e i size ht hi v n xs hown p c, by simpa using hown, World.grownBy.refl w _, .inl rfl⟩
  · obtain ⟨v', w', h1, h2, h3, _, h5⟩ := run_append_own_at (P := P) w base t ty e i z size bytes ht hi hz hsize hby hzs hsz v n xs hown ⟨b', o', none⟩ m c news hl (fun j u hu => by rw [add_of]; exact hc j u hu) h1 h63 hbytes hbase
    exact ⟨v', w', h1, h2, h3, h5⟩
theorem wpl_app {P : Program} {w : World} {ops : Array Oper} {rest : List Oper} {o : Oper} {a : Act} {Q : Exit → Act → World → Prop} (hgd : o.guard = none) (s x : Operand) (t : TypeId)
    (ho : o.op = .call { callee := .builtin .append, args := #[s, x], argTypes := #[t, t] })
    (base : Nat) (e : TypeId) (i : TypeInfo) (z : Value) (size bytes : Nat) (ht : P.underlying t = some (.slice e)) (hi : P.info? e = some i) (hz : i.zero = some z)
    (hsize : i.size = size) (hby : i.bytes = bytes) (hzs : z.cells.size = size) (hsz : 0 < size)
    (v : Value) (n : Nat) (xs : List Value) (hs : a.eval s = v) (hown : w.ownsRow base e size v n xs)
    (p : Option Addr) (m c : Nat) (news : List Value) (hx : a.eval x = .slice p m c) (hsrc : Src w size p m news) (h1 : ∀ u ∈ news, u.oneCell' = true)
    (h63 : n + m ≤ maxLen) (hbytes : (n + m) * bytes ≤ 140737488355328) (hbase : base ≤ w.heap.size)
    (h : ∀ v' w', w'.ownsRow base e size v' (n + m) (xs ++ news) → w.grownBy w' v.ownBlock → (v'.ownBlock = v.ownBlock ∨ v'.ownBlock = some w.heap.size) → wpList P ops Q rest (a.put o.dst v') w') : wpList P ops Q (o :: rest) a w := by
  obtain ⟨v', w', hr, h2, h3, h4⟩ := run_app (P := P) w base t o.type e i z size bytes ht hi hz hsize hby hzs hsz v n xs hown p m c news hsrc h1 h63 hbytes hbase
  refine wpList_plain hgd fun K hK => ?_
  unfold Oper.wp execOp
  simp only [ho, resolve, invoke, builtin, Sem.run_bind, Sem.run_pure, Result.andThen_ok, List.map_toArray, List.map_cons, List.map_nil, hs, hx, hr]
  exact hK _ _ (h v' w' h2 h3 h4)
theorem stepK_app {P : Program} {ops : Array Oper} {o : Oper} {a : Act} {w : World} {K : Act → World → Prop} {Q : Exit → Act → World → Prop} (s x : Operand) (t : TypeId) (ho : o.op = .call { callee := .builtin .append, args := #[s, x], argTypes := #[t, t] }) (hw : Region.wanted o (yielded ops a.tmps) = true) {v u : Value} (hs : a.eval s = v) (hx : a.eval x = u) {v' : Value} {w' : World} (hr : (Builtin.append_ #[t, t] o.type #[v, u]).run P w = .ok v' w') (h : K (a.put o.dst v') w') :
    if Region.wanted o (yielded ops a.tmps) = true then Oper.wp P o a w K Q else K (a.put o.dst undef) w := by
  rw [if_pos hw]; exact Lib.wp_append_run w s x t t ho v u hs hx v' w' hr h
/-- it lies in new memory alone -/
def New (w w' : World) (P : World → Nat → Prop) : Prop := ∃ T : Nat → Bool, P (cut T w') w'.heap.size ∧ ∀ i, T i = true → w.heap.size ≤ i ∧ i < w'.heap.size
def MonoP (P : World → Nat → Prop) : Prop := ∀ v v' N M, P v N → Le v v' → N ≤ M → P v' M
theorem New.keep {w W W' : World} {P : World → Nat → Prop} (h : New w W P) (hP : MonoP P) (hB : ∀ k, w.heap.size ≤ k → k < W.heap.size → W'.heap[k]? = W.heap[k]?) (hs : W.heap.size ≤ W'.heap.size) : New w W' P := by
  obtain ⟨T, h1, h2⟩ := h
  refine ⟨T, hP _ _ _ _ h1 (Le.cut2 fun k hk => ⟨hk, fun o v hv => ?_⟩) hs, fun k hk => ⟨(h2 k hk).1, Nat.lt_of_lt_of_le (h2 k hk).2 hs⟩⟩
  have := hB k (h2 k hk).1 (h2 k hk).2
  simp only [World.cell?] at hv ⊢
  rw [this]; exact hv
theorem New.later {w W W' : World} {P : World → Nat → Prop} (h : New w W P) (hP : MonoP P) (hB : Below W.heap.size W W') : New w W' P := h.keep hP (fun k _ hk => hB.block k hk) hB.size
theorem New.from {w w1 W : World} {P : World → Nat → Prop} (h : New w1 W P) (hs : w.heap.size ≤ w1.heap.size) : New w W P := by
  obtain ⟨T, h1, h2⟩ := h
  exact ⟨T, h1, fun k hk => ⟨Nat.le_trans hs (h2 k hk).1, (h2 k hk).2⟩⟩
theorem New.both {w W : World} {P Q : World → Nat → Prop} (h : New w W P) (k : New w W Q) (hP : MonoP P) (hQ : MonoP Q) : New w W fun v N => P v N ∧ Q v N := by
  obtain ⟨S, h1, h2⟩ := h
  obtain ⟨T, k1, k2⟩ := k
  refine ⟨fun i => S i || T i, ⟨hP _ _ _ _ h1 (Le.cut2 fun b hb => ⟨by simp [hb], fun _ _ h => h⟩) (Nat.le_refl _), hQ _ _ _ _ k1 (Le.cut2 fun b hb => ⟨by simp [hb], fun _ _ h => h⟩) (Nat.le_refl _)⟩, fun i hi => ?_⟩
  have : S i = true ∨ T i = true := by simpa using hi
  rcases this with h | h
  · exact h2 i h
  · exact k2 i h
theorem MonoP.and {P Q : World → Nat → Prop} (h : MonoP P) (k : MonoP Q) : MonoP fun v N => P v N ∧ Q v N := fun _ _ _ _ hp hl hm => ⟨h _ _ _ _ hp.1 hl hm, k _ _ _ _ hp.2 hl hm⟩
theorem mono_ints (xs : List Int) (q : Option Addr) : MonoP fun v N => Sl N q xs.length (Ints v xs) := fun _ _ _ _ h hl hm => h.imp' hm fun b o => Ints.le hl xs b o
theorem mono_lfin (l : Lf) (q : Option Addr) : MonoP fun v N => l.In v N q := fun _ _ _ _ h hl hm => h.le hl hm
theorem mono_lsin (l : Ls) (q : Option Addr) : MonoP fun v N => l.In v N q := fun _ _ _ _ h hl hm => h.le hl hm
def intCells (xs : List Int) : List Value := xs.map (.int .u64)
theorem Ints.list {w : World} : ∀ (xs : List Int) (b o : Nat), Ints w xs b o → ∀ j u, (intCells xs)[j]? = some u → w.cell? ⟨b, o + j, none⟩ = some u
  | [], _, _, _, j, u, h => by simp [intCells] at h
  | x :: xs, b, o, h, 0, u, hu => by simp [intCells] at hu; subst hu; exact h.1
  | x :: xs, b, o, h, j + 1, u, hu => by
    have := Ints.list xs b (o + 1) h.2 j u (by simpa [intCells] using hu)
    rw [show o + (j + 1) = o + 1 + j by omega]; exact this
theorem Ints.of {w : World} : ∀ (xs : List Int) (b o : Nat), (∀ j u, (intCells xs)[j]? = some u → w.cell? ⟨b, o + j, none⟩ = some u) → Ints w xs b o
  | [], _, _, _ => trivial
  | x :: xs, b, o, h => ⟨h 0 _ rfl, Ints.of xs b (o + 1) fun j u hu => by
    have := h (j + 1) u (by simpa [intCells] using hu)
    rw [show o + (j + 1) = o + 1 + j by omega] at this; exact this⟩
theorem oneInts : ∀ xs : List Int, ∀ u ∈ intCells xs, u.oneCell' = true := by
  intro xs u hu
  obtain ⟨x, _, rfl⟩ := List.mem_map.1 hu
  rfl
theorem info_u64 : (Try.prog.info? 24).map (fun i => (i.zero, i.size, i.bytes)) = some (some (.int .u64 0), 1, 8) := by kernel_rfl
theorem info_leak : (Try.prog.info? 47).map (fun i => (i.zero, i.size, i.bytes)) = some (some (.agg #[.int .i64 0, .slice none 0 0, .bool false, .slice none 0 0]), 4, 64) := by kernel_rfl
theorem info_leaks : (Try.prog.info? 23).map (fun i => (i.zero, i.size, i.bytes)) = some (some (.slice none 0 0), 1, 24) := by kernel_rfl
/-- words that the call has made -/
theorem own_ints {w0 w : World} {v : Value} {xs : List Int} (h : w.ownsRow w0.heap.size 24 1 v xs.length (intCells xs)) (hx : xs.length ≤ 140737488355328) :
    ∃ q d, v = .slice q xs.length d ∧ New w0 w fun u N => Sl N q xs.length (Ints u xs) := by
  rcases h.2 with ⟨rfl, h0⟩ | ⟨g, cap, cur, rfl, hg, hk, hnc, hm, hs, ht⟩
  · exact ⟨none, 0, by rw [h0], fun _ => false, ⟨by omega, .inl h0⟩, fun _ h => by cases h⟩
  · refine ⟨_, cap, rfl, fun i => i == g, ⟨hx, .inr ⟨g, 0, rfl, lt_blk hk, Ints.of xs g 0 fun j u hu => ?_⟩⟩, fun i hi => ?_⟩
    · rw [cell_cut, if_pos (by simp), Nat.zero_add]
      rw [← ht, List.getElem?_take] at hu
      split at hu
      · exact cell_blk hk (by rw [← Array.getElem?_toList]; exact hu)
      · cases hu
    · obtain rfl : i = g := by simpa using hi
      exact ⟨hg, lt_blk hk⟩
set_option maxHeartbeats 1600000 in
theorem copyItems_new (xs : List Int) (p : Option Addr) (c N : Nat) (w : World) (h : Sl N p xs.length (Ints w xs)) (hx : xs.length ≤ 1073741824) :
    Calls Try.prog 51 #[.slice p xs.length c] w fun e w' => ∃ q d, e = .returned (.slice q xs.length d) ∧ Below w.heap.size w w' ∧ New w w' fun u N => Sl N q xs.length (Ints u xs) := by
  obtain ⟨i0, hi, hz0, hz1, hz2⟩ := info_parts info_u64
  have HS := Lib.hid (show Src w 1 p xs.length (intCells xs) from ⟨by simp [intCells], by
    rcases h.2 with h0 | ⟨b, o, hp, _, ha⟩
    · exact .inl h0
    · exact .inr ⟨b, o, hp, Ints.list xs b o ha⟩⟩)
  have HO := Lib.hid (fun (v : Value) (w' : World) (h : w'.ownsRow w.heap.size 24 1 v xs.length (intCells xs)) => own_ints h (by omega))
  clear h
  go_enter Try.func51, Try.ntmps51
  go_wp2_with (at_builtin; refine wpl_app rfl _ _ 44 rfl w.heap.size 24 i0 (.int .u64 0) 1 8 Try.underlying44 hi hz0 hz1 hz2 rfl (by decide) (.slice none 0 0) 0 [] rfl (World.ownsRow_nil _ _ _ _) p xs.length c (intCells xs) rfl HS.out (oneInts xs) (by unfold maxLen; omega) (by omega) (Nat.le_refl _) ?_; intro v' w1 hown hg _)
  rw [Nat.zero_add, List.nil_append] at hown
  obtain ⟨q, d, rfl, hs⟩ := HO.out _ _ hown
  have HR := Lib.hid (And.intro ((Below.refl _ w).grown hg (Nat.le_refl _) (by simp [Value.ownBlock])) hs)
  clear hown hg hs
  go_wp2_with fail
  go_ret
  exact ⟨q, d, rfl, HR.out⟩
end Go.Proofs.Ytcadeeldogknmaa
