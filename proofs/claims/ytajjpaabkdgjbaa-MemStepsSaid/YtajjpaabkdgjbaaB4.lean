/- A memory as it lies: its regions, who has an address, its words. -/
import Derived.Test.YtajjpaabkdgjbaaB1
import Derived.Laws.AppendOwnNone
import Derived.WalkSpells
import Derived.Outline
namespace Go.Proofs.Ytajjpaabkdgjbaa
open Go.RowKit

/-- a slice's cells, as append reads them -/
def Src (w : World) (size : Nat) (p : Option Addr) (m c : Nat) (news : List Value) : Prop :=
  news.length = m * size ∧ ((p = none ∧ m = 0 ∧ c = 0) ∨ ∃ ad, p = some ad ∧ ∀ j u, news[j]? = some u → w.cell? (ad.add j) = some u)

theorem wpList_append_src {P : Program} {w : World} {ops : Array Oper} {rest : List Oper} {o : Oper} {a : Act} {Q : Exit → Act → World → Prop} (hgd : o.guard = none) (s x : Operand) (t : TypeId)
    (ho : o.op = .call { callee := .builtin .append, args := #[s, x], argTypes := #[t, t] })
    (base : Nat) (e : TypeId) (i : TypeInfo) (z : Value) (size bytes : Nat) (ht : P.underlying t = some (.slice e)) (hi : P.info? e = some i) (hz : i.zero = some z)
    (hsize : i.size = size) (hby : i.bytes = bytes) (hzs : z.cells.size = size) (hsz : 0 < size)
    (v : Value) (n : Nat) (xs : List Value) (hs : a.eval s = v) (hown : w.ownsRow base e size v n xs)
    (p : Option Addr) (m c : Nat) (news : List Value) (hx : a.eval x = .slice p m c) (hsrc : Src w size p m c news) (h1 : ∀ u ∈ news, u.oneCell' = true)
    (h63 : n + m ≤ maxLen) (hbytes : (n + m) * bytes ≤ 140737488355328) (hbase : base ≤ w.heap.size)
    (h : ∀ v' w', w'.ownsRow base e size v' (n + m) (xs ++ news) → w.grownBy w' v.ownBlock → wpList P ops Q rest (a.put o.dst v') w') : wpList P ops Q (o :: rest) a w := by
  obtain ⟨hl, ⟨rfl, rfl, rfl⟩ | ⟨ad, rfl, hc⟩⟩ := hsrc
  · have : news = [] := List.eq_nil_of_length_eq_zero (by simpa using hl)
    subst this
    exact wpList_append_own_none hgd s x t ho base e i size ht hi v n xs hs hown hx (h v w (by simpa using hown) (World.grownBy.refl w _))
  · exact wpList_append_own w hgd s x t ho base e i z size bytes ht hi hz hsize hby hzs hsz v n xs hs hown ad m c news hx hl hc h1 h63 hbytes hbase fun v' w' h2 h3 _ => h v' w' h2 h3

theorem own_cap {w : World} {base : Nat} {e : TypeId} {size n : Nat} {v : Value} {xs : List Value} (h : w.ownsRow base e size v n xs) : ∃ p c, v = .slice p n c ∧ n ≤ c ∧ c ≤ maxLen ∧ (p = none → n = 0 ∧ c = 0) ∧ (∀ ad, p = some ad → ∃ g, ad = ⟨g, 0, none⟩ ∧ base ≤ g ∧ g < w.heap.size ∧ (∀ o, w.frozen? ⟨g, o, none⟩ = false) ∧ ∀ j u, xs[j]? = some u → w.cell? ⟨g, j, none⟩ = some u) := by
  rcases h.2 with ⟨rfl, rfl⟩ | ⟨g, cap, cur, rfl, hb, hg, hnc, hcm, _⟩
  · exact ⟨none, 0, rfl, Nat.le_refl _, Nat.zero_le _, fun _ => ⟨rfl, rfl⟩, fun _ h => by cases h⟩
  · refine ⟨_, cap, rfl, hnc, hcm, (fun h => (by cases h)), fun ad had => ?_⟩
    cases had
    refine ⟨g, rfl, hb, (h.lt g rfl).2, fun o => by simp [World.frozen?, hg], fun j u hu => ?_⟩
    have := h.cells (g := g) rfl j u hu
    rw [add_of, Nat.zero_add] at this; exact this

theorem Src.rg {w : World} {N : Nat} {xs : List Rg} {p : Option Addr} {c : Nat} (h : RgIn w N xs p) (hp : p = none → c = 0) : Src w 4 p xs.length c (rgCells xs) := by
  refine ⟨rg_len xs, ?_⟩
  cases p with
  | none =>
    rcases h.2 with h0 | ⟨b, o, hq, _⟩
    · exact .inl ⟨rfl, h0, hp rfl⟩
    · cases hq
  | some ad =>
    refine .inr ⟨ad, rfl, fun j u hu => ?_⟩
    rcases h.2 with h0 | ⟨b, o, hq, hb, ha⟩
    · have : xs = [] := List.eq_nil_of_length_eq_zero h0
      subst this; simp [rgCells] at hu
    · cases hq
      rw [add_of]
      exact RgAt.list xs b o ha j u hu

/-- regions in a slice of the call's own -/
def RgOwn (B : Nat) (w : World) (l : List Rg) (v : Value) : Prop :=
  ∃ q d, v = .slice q l.length d ∧ RgIn w w.heap.size l q ∧ l.length ≤ d ∧ d ≤ 9223372036854775807 ∧ (q = none → d = 0) ∧ ∀ b o, q = some ⟨b, o, none⟩ → B ≤ b
theorem own_rg {w : World} {base : Nat} {v : Value} {xs : List Rg} (h : w.ownsRow base 66 4 v xs.length (rgCells xs)) (hx : xs.length ≤ 1000000) : RgOwn base w xs v := by
  obtain ⟨q, d, hv, h1, h2, h3, h4⟩ := own_cap h
  refine ⟨q, d, hv, ⟨by omega, ?_⟩, h1, by unfold maxLen at h2; omega, fun h => (h3 h).2, fun b o hq => ?_⟩
  · cases q with
    | none => exact .inl (h3 rfl).1
    | some ad =>
      obtain ⟨g, rfl, hb, hlt, _, hc⟩ := h4 ad rfl
      exact .inr ⟨g, 0, rfl, hlt, RgAt.of xs g 0 fun j u hu => by rw [Nat.zero_add]; exact hc j u hu⟩
  · subst hq
    obtain ⟨g, hg, hb, _⟩ := h4 _ rfl
    cases hg; exact hb

theorem info_rg : (Try.prog.info? 66).map (fun i => (i.zero, i.size, i.bytes)) = some (some (.agg #[.string ByteArray.empty, .int .i64 0, .int .i64 0, .bool false]), 4, 40) := by kernel_rfl

set_option maxHeartbeats 400000 in
theorem clone_nil (w : World) :
    Calls Try.prog 54 #[.slice none 0 0] w fun e w' => e = .returned (.slice none 0 0) ∧ w = w' := by
  have q22 : ∀ (w : World) (a : Option Addr) (n c n' c' : Nat), (binOp .eql 22 (.slice a n c) (.slice none n' c')).run Try.prog w = .ok (.bool a.isNone) w := fun w a n c n' c' => Lib.run_eql_slice_nil w _ _ a n c n' c' Try.underlying22
  go_enter Try.func54, Try.ntmps54
  go_wp2_with fail
  go_ret
  exact ⟨rfl, rfl⟩
set_option maxRecDepth 100000 in
set_option maxHeartbeats 1600000 in
theorem clone_any (l : List Rg) (ad : Addr) (c N : Nat) (w : World) (h : RgIn w N l (some ad)) (hN : N ≤ w.heap.size) (hl : l.length ≤ 1000000) :
    Calls Try.prog 54 #[.slice (some ad) l.length c] w fun e w' => (∃ v, e = .returned v ∧ RgOwn w.heap.size w' l v) ∧ Below w.heap.size w w' := by
  obtain ⟨i0, hi, hz0, hz1, hz2⟩ := info_parts info_rg
  have q22 : ∀ (w : World) (a : Option Addr) (n c n' c' : Nat), (binOp .eql 22 (.slice a n c) (.slice none n' c')).run Try.prog w = .ok (.bool a.isNone) w := fun w a n c n' c' => Lib.run_eql_slice_nil w _ _ a n c n' c' Try.underlying22
  go_enter Try.func54, Try.ntmps54
  go_wp2_with (at_builtin; refine wpList_append_src rfl _ _ 22 rfl w.heap.size 66 i0 (.agg #[.string ByteArray.empty, .int .i64 0, .int .i64 0, .bool false]) 4 40 Try.underlying22 hi hz0 hz1 hz2 rfl (by decide) _ _ _ rfl (World.ownsRow_made w #[] 0 (Nat.le_refl _) (Nat.zero_le _) rfl) _ _ _ (rgCells l) rfl ?q1 (oneRg l) ?q3 ?q4 ?q5 ?_)
  case q1 => exact (Src.rg (h.later ((Below.refl _ _).alloc hN _) (Nat.le_refl _)) (fun h => by cases h))
  case q3 => unfold maxLen; omega
  case q4 => omega
  case q5 => simp
  intro v' w1 hown hgrow
  have HO := Lib.hid (own_rg (by simpa using hown) hl)
  have HB := Lib.hid (((Below.refl _ w).alloc (Nat.le_refl _) _).grown hgrow (by simp) (by intro k hk; simp [Value.ownBlock] at hk; omega))
  clear hown hgrow
  go_wp2_with fail
  go_ret
  exact ⟨⟨v', rfl, HO.out⟩, HB.out⟩
end Go.Proofs.Ytajjpaabkdgjbaa
