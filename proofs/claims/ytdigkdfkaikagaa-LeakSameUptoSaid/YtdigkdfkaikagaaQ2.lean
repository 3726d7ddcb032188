/- append of a slice that came in, nil or not; what lies in memory as cells; two leakages one behind the other. -/
import Derived.Test.YtdigkdfkaikagaaQ1
import Derived.Test.YtdigkdfkaikagaaL10
import Derived.Test.YtdigkdfkaikagaaS1
import Derived.Test.YtdigkdfkaikagaaF1
import Derived.Laws.AppendOwnNone
namespace Go.Proofs.Ytdigkdfkaikagaa
open Go.RowKit

/-- a slice's cells, as append reads them -/
def Src (w : World) (size : Nat) (p : Option Addr) (m c : Nat) (news : List Value) : Prop :=
  news.length = m * size ∧ ((p = none ∧ m = 0 ∧ c = 0) ∨ ∃ ad, p = some ad ∧ ∀ j u, news[j]? = some u → w.cell? (ad.add j) = some u)

theorem wpList_append_src {P : Program} {w : World} {ops : Array Oper} {rest : List Oper} {o : Oper} {a : Act} {Q : Exit → Act → World → Prop} (hgd : o.guard = none) (s x : Operand) (t : TypeId)
    (ho : o.op = .call { callee := .builtin .append, args := #[s, x], argTypes := #[t, t] })
    (base : Nat) (e : TypeId) (i : TypeInfo) (z : Value) (size bytes : Nat) (ht : P.underlying t = some (.slice e)) (hi : P.info? e = some i) (hz : i.zero = some z)
    (hsize : i.size = size) (hby : i.bytes = bytes) (hzs : z.cells.size = size) (hsz : 0 < size)
    (v : Value) (n : Nat) (xs : List Value) (hs : a.eval s = v) (hown : w.ownsRow base e size v n xs)
    (p : Option Addr) (m c : Nat) (news : List Value) (hx : a.eval x = .slice p m c) (hsrc : Src w size p m c news) (h1 : ∀ u ∈ news, u.oneCell' = true)
    (h63 : n + m ≤ maxLen) (hbytes : (n + m) * bytes ≤ 140737488355328) (hbase : base ≤ w.heap.size)
    (h : ∀ v' w', w'.ownsRow base e size v' (n + m) (xs ++ news) → w.grownBy w' v.ownBlock → wpList P ops Q rest (a.put o.dst v') w') : wpList P ops Q (o :: rest) a w := by
  obtain ⟨hl, ⟨rfl, rfl, rfl⟩ | ⟨ad, rfl, hc⟩⟩ := hsrc
  · have : news = [] := List.eq_nil_of_length_eq_zero (by simpa using hl)
    subst this
    exact wpList_append_own_none hgd s x t ho base e i size ht hi v n xs hs hown hx (h v w (by simpa using hown) (World.grownBy.refl w _))
  · exact wpList_append_own w hgd s x t ho base e i z size bytes ht hi hz hsize hby hzs hsz v n xs hs hown ad m c news hx hl hc h1 h63 hbytes hbase fun v' w' h2 h3 _ => h v' w' h2 h3

theorem wpList_append_if {P : Program} {w : World} {ops : Array Oper} {rest : List Oper} {o : Oper} {a : Act} {Q : Exit → Act → World → Prop} (hw : Region.wanted o (yielded ops a.tmps) = true) (s x : Operand) (t : TypeId)
    (ho : o.op = .call { callee := .builtin .append, args := #[s, x], argTypes := #[t, t] })
    (base : Nat) (e : TypeId) (i : TypeInfo) (z : Value) (size bytes : Nat) (ht : P.underlying t = some (.slice e)) (hi : P.info? e = some i) (hz : i.zero = some z)
    (hsize : i.size = size) (hby : i.bytes = bytes) (hzs : z.cells.size = size) (hsz : 0 < size)
    (v : Value) (n : Nat) (xs : List Value) (hs : a.eval s = v) (hown : w.ownsRow base e size v n xs)
    (p : Option Addr) (m c : Nat) (news : List Value) (hx : a.eval x = .slice p m c) (hsrc : Src w size p m c news) (h1 : ∀ u ∈ news, u.oneCell' = true)
    (h63 : n + m ≤ maxLen) (hbytes : (n + m) * bytes ≤ 140737488355328) (hbase : base ≤ w.heap.size)
    (h : ∀ v' w', w'.ownsRow base e size v' (n + m) (xs ++ news) → w.grownBy w' v.ownBlock → wpList P ops Q rest (a.put o.dst v') w') : wpList P ops Q (o :: rest) a w := by
  refine wpList_step fun K hK => ?_
  rw [if_pos hw]
  obtain ⟨hl, ⟨rfl, rfl, rfl⟩ | ⟨ad, rfl, hc⟩⟩ := hsrc
  · have : news = [] := List.eq_nil_of_length_eq_zero (by simpa using hl)
    subst this
    have hrun := run_append_owned_none (P := P) (w := w) base t o.type e i size ht hi v n xs hown
    unfold Oper.wp
    simp [execOp, ho, resolve, invoke, builtin, hs, hx, hrun, Result.andThen]
    exact hK _ _ (h v w (by simpa using hown) (World.grownBy.refl w _))
  · exact wp_append_own w s x t ho base e i z size bytes ht hi hz hsize hby hzs hsz v n xs hs hown ad m c news hx hl hc h1 h63 hbytes hbase fun v' w' h2 h3 _ => hK _ _ (h v' w' h2 h3)

theorem add_of (b o j : Nat) : (⟨b, o, none⟩ : Addr).add j = ⟨b, o + j, none⟩ := by unfold Addr.add; split <;> simp_all

def intCells (xs : List Int) : List Value := xs.map (.int .u64)
theorem Ints.list {w : World} : ∀ (xs : List Int) (b o : Nat), Ints w xs b o → ∀ j u, (intCells xs)[j]? = some u → w.cell? ⟨b, o + j, none⟩ = some u
  | [], _, _, _, j, u, h => by simp [intCells] at h
  | x :: xs, b, o, h, 0, u, hu => by simp [intCells] at hu; subst hu; exact h.1
  | x :: xs, b, o, h, j + 1, u, hu => by
    have := Ints.list xs b (o + 1) h.2 j u (by simpa [intCells] using hu)
    rw [show o + (j + 1) = o + 1 + j by omega]; exact this
theorem Ints.of {w : World} : ∀ (xs : List Int) (b o : Nat), (∀ j u, (intCells xs)[j]? = some u → w.cell? ⟨b, o + j, none⟩ = some u) → Ints w xs b o
  | [], _, _, _ => trivial
  | x :: xs, b, o, h => ⟨h 0 _ rfl, Ints.of xs b (o + 1) fun j u hu => by
    have := h (j + 1) u (by simpa [intCells] using hu)
    rw [show o + (j + 1) = o + 1 + j by omega] at this; exact this⟩
def s3Cells (xs : List S3) : List Value := xs.flatMap S3.cells
theorem s3_len : ∀ xs : List S3, (s3Cells xs).length = xs.length * 3
  | [] => rfl
  | x :: xs => by have := s3_len xs; unfold s3Cells at this ⊢; simp [S3.cells, this]; omega
theorem S3At.list {w : World} : ∀ (xs : List S3) (b o : Nat), S3At w xs b o → ∀ j u, (s3Cells xs)[j]? = some u → w.cell? ⟨b, o + j, none⟩ = some u
  | [], _, _, _, j, u, h => by simp [s3Cells] at h
  | x :: xs, b, o, h, 0, u, hu => by simp [s3Cells, S3.cells] at hu; subst hu; exact h.1.1
  | x :: xs, b, o, h, 1, u, hu => by simp [s3Cells, S3.cells] at hu; subst hu; exact h.1.2.1
  | x :: xs, b, o, h, 2, u, hu => by simp [s3Cells, S3.cells] at hu; subst hu; exact h.1.2.2
  | x :: xs, b, o, h, j + 3, u, hu => by
    have := S3At.list xs b (o + 3) h.2 j u (by simpa [s3Cells, S3.cells] using hu)
    rw [show o + (j + 3) = o + 3 + j by omega]; exact this
theorem S3At.of {w : World} : ∀ (xs : List S3) (b o : Nat), (∀ j u, (s3Cells xs)[j]? = some u → w.cell? ⟨b, o + j, none⟩ = some u) → S3At w xs b o
  | [], _, _, _ => trivial
  | x :: xs, b, o, h => ⟨⟨h 0 _ (by simp [s3Cells, S3.cells]), h 1 _ (by simp [s3Cells, S3.cells]), h 2 _ (by simp [s3Cells, S3.cells])⟩, S3At.of xs b (o + 3) fun j u hu => by
    have := h (j + 3) u (by simpa [s3Cells, S3.cells] using hu)
    rw [show o + (j + 3) = o + 3 + j by omega] at this; exact this⟩
theorem sn_len : ∀ xs : List Sn, (snCells xs).length = xs.length * 3
  | [] => rfl
  | x :: xs => by have := sn_len xs; unfold snCells at this ⊢; cases x <;> simp [Sn.cells, this] <;> omega
theorem SnAt.of {w : World} : ∀ (xs : List Sn) (b o : Nat), (∀ j u, (snCells xs)[j]? = some u → w.cell? ⟨b, o + j, none⟩ = some u) → SnAt w xs b o
  | [], _, _, _ => trivial
  | x :: xs, b, o, h => by
    have hx : x.cells.length = 3 := by cases x <;> rfl
    refine ⟨fun j u hj => h j u ?_, SnAt.of xs b (o + 3) fun j u hu => ?_⟩
    · have : j < x.cells.length := by rcases Nat.lt_or_ge j x.cells.length with h | h; exact h; rw [List.getElem?_eq_none h] at hj; cases hj
      simp only [snCells, List.flatMap_cons]
      rw [List.getElem?_append_left this]; exact hj
    · have := h (j + 3) u (by simp only [snCells, List.flatMap_cons]; rw [List.getElem?_append_right (by omega), hx]; simpa [snCells] using hu)
      rw [show o + (j + 3) = o + 3 + j by omega] at this; exact this

def Lf.app : Lf → Lf → Lf
  | .nil, m => m
  | .node k is t s r, m => .node k is t s (r.app m)
theorem Lf.app_len : ∀ l m : Lf, (l.app m).len = l.len + m.len
  | .nil, m => by simp [Lf.app, Lf.len]
  | .node _ _ _ _ r, m => by simp only [Lf.app, Lf.len, Lf.app_len r m]; omega
theorem Lf.app_flat : ∀ l m : Lf, (l.app m).flat = l.flat ++ m.flat
  | .nil, m => by simp [Lf.app, Lf.flat]
  | .node _ _ _ _ r, m => by simp only [Lf.app, Lf.flat, Lf.app_flat r m, List.append_assoc]
theorem Lf.app_shaped : ∀ l m : Lf, (l.app m).shaped = (l.shaped && m.shaped)
  | .nil, m => by simp [Lf.app, Lf.shaped]
  | .node _ _ _ _ r, m => by simp only [Lf.app, Lf.shaped, Lf.app_shaped r m, Bool.and_assoc]
theorem Lf.app_weight : ∀ l m : Lf, (l.app m).weight = l.weight + m.weight
  | .nil, m => by simp [Lf.app, Lf.weight]
  | .node _ _ _ _ r, m => by simp only [Lf.app, Lf.weight, Lf.app_weight r m]; omega
theorem Lf.app_depth : ∀ l m : Lf, (l.app m).depth = max l.depth m.depth
  | .nil, m => by simp [Lf.app, Lf.depth]
  | .node _ _ _ _ r, m => by simp only [Lf.app, Lf.depth, Lf.app_depth r m]; omega
theorem At_app {w : World} {N : Nat} : ∀ (l m : Lf) (b o : Nat), l.At w N b o → m.At w N b (o + l.len * 4) → (l.app m).At w N b o
  | .nil, m, b, o, _, h => by simpa [Lf.len, Lf.app] using h
  | .node k is t s r, m, b, o, h, hm => by
    obtain ⟨h0, h1, h2, h3, h4⟩ := h
    refine ⟨h0, h1, h2, h3, At_app r m b (o + 4) h4 ?_⟩
    simp only [Lf.len] at hm
    rw [show o + 4 + r.len * 4 = o + (r.len + 1) * 4 by omega]; exact hm
theorem At_cells {w : World} {N : Nat} : ∀ (l : Lf) (b o : Nat), l.At w N b o → ∃ news : List Value, news.length = l.len * 4 ∧ (∀ j u, news[j]? = some u → w.cell? ⟨b, o + j, none⟩ = some u) ∧ (∀ u ∈ news, u.oneCell' = true) ∧
    ∀ (w' : World) (b' o' : Nat), Below N w w' → (∀ j u, news[j]? = some u → w'.cell? ⟨b', o' + j, none⟩ = some u) → l.At w' N b' o'
  | .nil, _, _, _ => ⟨[], rfl, fun _ _ h => by simp at h, fun _ h => by simp at h, fun _ _ _ _ _ => trivial⟩
  | .node k is t s r, b, o, h => by
    obtain ⟨h0, ⟨p, c, h1, s1⟩, h2, ⟨q, d, h3, s3⟩, h4⟩ := h
    obtain ⟨news, hl, hc, ho, hw⟩ := At_cells r b (o + 4) h4
    refine ⟨.int .i64 k :: .slice p is.length c :: .bool t :: .slice q s.len d :: news, by simp only [List.length_cons, hl, Lf.len]; omega, fun j u hu => ?_, fun u hu => ?_, fun w' b' o' hB hn => ?_⟩
    · match j, hu with
      | 0, hu => simp at hu; subst hu; exact h0
      | 1, hu => simp at hu; subst hu; exact h1
      | 2, hu => simp at hu; subst hu; exact h2
      | 3, hu => simp at hu; subst hu; exact h3
      | j + 4, hu => have := hc j u (by simpa using hu); rw [show o + (j + 4) = o + 4 + j by omega]; exact this
    · simp only [List.mem_cons] at hu
      rcases hu with rfl | rfl | rfl | rfl | hu
      · rfl
      · rfl
      · rfl
      · rfl
      · exact ho u hu
    · exact ⟨hn 0 _ rfl, ⟨p, c, hn 1 _ rfl, s1.imp (Nat.le_refl _) fun b o hb ha => Ints.later hB is b o hb ha⟩, hn 2 _ rfl, ⟨q, d, hn 3 _ rfl, s3.imp (Nat.le_refl _) fun b o hb ha => Ls.At.later hB (Nat.le_refl _) s b o hb ha⟩,
        hw w' b' (o' + 4) hB fun j u hu => by have := hn (j + 4) u (by simpa using hu); rw [show o' + (j + 4) = o' + 4 + j by omega] at this; exact this⟩

mutual
theorem Lf.meas_small : ∀ (l : Lf) (deep : Nat) (left : Int), deep + l.depth ≤ 513 → (l.weight : Int) ≤ left → ∃ x, l.meas deep left = .ok x ∧ left - l.weight ≤ x
  | .nil, _, left, _, _ => ⟨left, by simp [Lf.meas], by simp [Lf.weight]⟩
  | .node _ is _ s r, deep, left, hd, hl => by
    simp only [Lf.depth] at hd
    simp only [Lf.weight] at hl ⊢
    obtain ⟨x, hx, hx2⟩ := Ls.meas_small s (deep + 1) (left - (1 + (is.length : Int))) (by omega) (by omega)
    obtain ⟨y, hy, hy2⟩ := Lf.meas_small r deep x (by omega) (by omega)
    refine ⟨y, ?_, by omega⟩
    rw [Lf.meas, if_neg (by omega), if_neg (by omega), hx]
    exact hy
theorem Ls.meas_small : ∀ (l : Ls) (deep : Nat) (left : Int), deep + l.depth ≤ 513 → (l.weight : Int) ≤ left → ∃ x, l.meas deep left = .ok x ∧ left - l.weight ≤ x
  | .nil, _, left, _, _ => ⟨left, by simp [Ls.meas], by simp [Ls.weight]⟩
  | .sub l r, deep, left, hd, hl => by
    simp only [Ls.depth] at hd
    simp only [Ls.weight] at hl ⊢
    obtain ⟨x, hx, hx2⟩ := Lf.meas_small l deep left (by omega) (by omega)
    obtain ⟨y, hy, hy2⟩ := Ls.meas_small r deep x (by omega) (by omega)
    refine ⟨y, ?_, by omega⟩
    rw [Ls.meas, hx]
    exact hy
end
theorem check_small {l : Lf} (hd : l.depth ≤ 512) (hw : l.weight ≤ 1000000) (hs : l.shaped = true) : l.check = 0 := by
  obtain ⟨x, hx, _⟩ := Lf.meas_small l 1 1000000 (by omega) (by omega)
  simp [Lf.check, hx, errOf, hs]
mutual
theorem Lf.flat_len : ∀ l : Lf, l.flat.length ≤ 2 * l.weight
  | .nil => by simp [Lf.flat]
  | .node k is t s r => by
    have h1 := Ls.flat_len s
    have h2 := Lf.flat_len r
    simp only [Lf.flat, Lf.weight, seenOf, List.length_append, List.length_map]
    split <;> simp <;> omega
theorem Ls.flat_len : ∀ l : Ls, l.flat.length ≤ 2 * l.weight
  | .nil => by simp [Ls.flat]
  | .sub l r => by
    have h1 := Lf.flat_len l
    have h2 := Ls.flat_len r
    simp only [Ls.flat, Ls.weight, List.length_append]; omega
end
end Go.Proofs.Ytdigkdfkaikagaa
