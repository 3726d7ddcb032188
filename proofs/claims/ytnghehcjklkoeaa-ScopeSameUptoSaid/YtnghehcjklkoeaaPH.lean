/- PF, PG, PH as one. -/
import Derived.Test.YtnghehcjklkoeaaPE
import Derived.Test.YtnghehcjklkoeaaPC
import Derived.Test.YtnghehcjklkoeaaP2
/- A copy in new memory: expressions. -/
namespace Go.Proofs.Ytnghehcjklkoeaa
open Go.RowKit

/-- an expression of the new row, whose list is new, too -/
def DoneE (w : World) (S : Nat → Bool) (M : Nat) (x : Ex) (b o : Nat) : Prop :=
  ∃ p c, w.cell? ⟨b, o, none⟩ = some (.int .i64 x.op) ∧ w.cell? ⟨b, o + 1, none⟩ = some (.int .u64 (x.word : Int)) ∧ w.cell? ⟨b, o + 2, none⟩ = some (.string (str x.name)) ∧ w.cell? ⟨b, o + 3, none⟩ = some (.slice p x.args.len c) ∧ x.Ok (cut S w) M p
/-- one whose list is the old one's -/
def PendE (w v : World) (N : Nat) (x : Ex) (b o : Nat) : Prop :=
  ∃ p c, w.cell? ⟨b, o, none⟩ = some (.int .i64 x.op) ∧ w.cell? ⟨b, o + 1, none⟩ = some (.int .u64 (x.word : Int)) ∧ w.cell? ⟨b, o + 2, none⟩ = some (.string (str x.name)) ∧ w.cell? ⟨b, o + 3, none⟩ = some (.slice p x.args.len c) ∧ x.Ok v N p
/-- a row's cells -/
theorem ex_news {w : World} {N : Nat} : ∀ (l : Exs) (b o : Nat), l.At w N b o → ∃ news : List Value, news.length = l.len * 4 ∧ (∀ u ∈ news, u.oneCell' = true) ∧ (∀ j u, news[j]? = some u → w.cell? ⟨b, o + j, none⟩ = some u) ∧
    ∀ (W : World) (g q : Nat), (∀ j u, news[j]? = some u → W.cell? ⟨g, q + j, none⟩ = some u) → Row (PendE W w N) 4 l.toL g q
  | .nil, b, o, _ => ⟨[], (by simp [Exs.len]), (fun u h => (by cases h)), (fun j u h => (by simp at h)), fun _ _ _ _ => trivial⟩
  | .cons x r, b, o, h => by
    obtain ⟨p, c, e0, e1, e2, e3, hok⟩ := h.1.open'
    obtain ⟨m, h1, h2, h3, h4⟩ := ex_news r b (o + 4) h.2
    refine ⟨.int .i64 x.op :: .int .u64 (x.word : Int) :: .string (str x.name) :: .slice p x.args.len c :: m, by simp [h1, Exs.len]; omega, ?_, ?_, ?_⟩
    · intro u hu
      simp only [List.mem_cons] at hu
      rcases hu with rfl | rfl | rfl | rfl | hu
      · rfl
      · rfl
      · rfl
      · rfl
      · exact h2 u hu
    · intro j u hu
      rcases j with _ | _ | _ | _ | j
      · cases hu; exact e0
      · cases hu; exact e1
      · cases hu; exact e2
      · cases hu; exact e3
      · rw [show o + (j + 1 + 1 + 1 + 1) = o + 4 + j by omega]; exact h3 j u (by simpa using hu)
    · intro W g q H
      refine ⟨⟨p, c, H 0 _ rfl, H 1 _ rfl, H 2 _ rfl, H 3 _ rfl, hok⟩, h4 W g (q + 4) fun j u hu => ?_⟩
      have := H (j + 4) u (by simpa using hu)
      rw [show q + (j + 4) = q + 4 + j by omega] at this; exact this
/-- all done: the row is new -/
theorem done_all {w : World} {S T : Nat → Bool} {M g : Nat} (hg : T g = true) (hST : ∀ k, S k = true → T k = true) : ∀ (l : Exs) (o : Nat), Row (DoneE w S M) 4 l.toL g o → l.At (cut T w) M g o
  | .nil, _, _ => trivial
  | .cons x r, o, h => by
    obtain ⟨⟨p, c, e0, e1, e2, e3, hok⟩, hr⟩ := h
    refine ⟨?_, done_all hg hST r (o + 4) hr⟩
    have hok' := hok.le (Le.cut2 (S := S) (T := T) (w := w) (w' := w) fun b hb => ⟨hST b hb, fun _ _ h => h⟩) (Nat.le_refl M)
    obtain ⟨op, wd, nm, ar⟩ := x
    exact ⟨⟨by rw [cell_cut, if_pos hg]; exact e0, by rw [cell_cut, if_pos hg]; exact e1, by rw [cell_cut, if_pos hg]; exact e2, hok.2⟩, ⟨p, c, by rw [cell_cut, if_pos hg]; exact e3, hok'.1⟩⟩
theorem Row.imp2 {α : Type} {A B : α → Nat → Nat → Prop} {k b : Nat} : ∀ (l : List α) (o : Nat), (∀ x i, i < l.length → A x b (o + i * k) → B x b (o + i * k)) → Row A k l b o → Row B k l b o
  | [], _, _, _ => trivial
  | x :: r, o, h, H => ⟨by have := h x 0 (by simp); simp only [Nat.zero_mul, Nat.add_zero] at this; exact this H.1, Row.imp2 r (o + k) (fun y i hi ha => by
      have := h y (i + 1) (by simp; omega)
      rw [show o + (i + 1) * k = o + k + i * k by rw [Nat.add_mul]; omega] at this
      exact this ha) H.2⟩
theorem Row.snoc {α : Type} {A : α → Nat → Nat → Prop} {k b : Nat} : ∀ (l : List α) (x : α) (o : Nat), Row A k l b o → A x b (o + l.length * k) → Row A k (l ++ [x]) b o
  | [], x, o, _, h => ⟨by simpa using h, trivial⟩
  | y :: l, x, o, H, h => ⟨H.1, Row.snoc l x (o + k) H.2 (by rw [show o + k + l.length * k = o + (y :: l).length * k by simp only [List.length_cons, Nat.add_mul]; omega]; exact h)⟩

def CpE (n : Nat) : Prop := ∀ l : Exs, l.size < n → l.size ≤ 1048576 → ∀ (p : Option Addr) (c N : Nat) (w : World), l.In w N p → N ≤ w.heap.size →
    Calls Try.prog 48 #[.slice p l.len c, .func (Fn.func 47) #[] #[]] w fun z w' => ∃ q d S, z = .returned (.slice q l.len d) ∧ Below w.heap.size w w' ∧ l.In (cut S w') w'.heap.size q ∧ Wr S w'.heap.size w' ∧ ∀ k, S k = true → w.heap.size ≤ k
set_option maxHeartbeats 1600000 in
theorem renew_of (n : Nat) (ih : CpE n) (x : Ex) (hx : x.args.size < n) (hb : x.args.size ≤ 1048576) (p : Option Addr) (c N b o : Nat) (w : World) (h : x.args.In w N p) (hN : N ≤ w.heap.size) (c3 : w.cell? ⟨b, o + 3, none⟩ = some (.slice p x.args.len c)) (f3 : w.frozen? ⟨b, o + 3, none⟩ = false) :
    Calls Try.prog 47 #[.pointer (some ⟨b, o, none⟩)] w fun z w' => z = .returned (.tuple #[]) ∧ ∃ w1 q d S, w' = w1.setCell ⟨b, o + 3, none⟩ (.slice q x.args.len d) ∧ Below w.heap.size w w1 ∧ x.args.In (cut S w1) w1.heap.size q ∧ Wr S w1.heap.size w1 ∧ ∀ k, S k = true → w.heap.size ≤ k := by
  have HC := Lib.hid (ih x.args hx hb p c N w h hN)
  clear ih h
  generalize hl : x.args.len = m at c3 HC ⊢
  go_enter Try.func47, Try.ntmps47
  go_wp2_with fail
  refine HC.out.mono ?_
  rintro z w1 ⟨q, d, S, rfl, hB, hIn, hWr, hS⟩
  have c3' : w1.cell? ⟨b, o + 3, none⟩ = some (.slice p m c) := (hB.cell (p := ⟨b, o + 3, none⟩) (World.block_lt_of_cell? _ _ c3)).trans c3
  have f3' : w1.frozen? ⟨b, o + 3, none⟩ = false := (World.frozen?_of_block (hB.block b (World.block_lt_of_cell? _ _ c3))).trans f3
  have HR := Lib.hid (show ∃ w1' q' d' S, w1.setCell ⟨b, o + 3, none⟩ (.slice q m d) = w1'.setCell ⟨b, o + 3, none⟩ (.slice q' m d') ∧ Below w.heap.size w w1' ∧ x.args.In (cut S w1') w1'.heap.size q' ∧ Wr S w1'.heap.size w1' ∧ ∀ k, S k = true → w.heap.size ≤ k from ⟨w1, q, d, S, rfl, hB, hIn, hWr, hS⟩)
  clear hB hIn hWr hS c3 f3 HC
  go_wp2_with fail
  go_end0
  exact ⟨rfl, HR.out⟩
end Go.Proofs.Ytnghehcjklkoeaa
/- A copy in new memory: expressions, all of them. -/
namespace Go.Proofs.Ytnghehcjklkoeaa
open Go.RowKit

theorem exs_len_size : ∀ l : Exs, l.len ≤ l.size
  | .nil => Nat.le_refl _
  | .cons x r => by have := exs_len_size r; simp only [Exs.len, Exs.size]; omega
theorem set_size (w : World) (a : Addr) (v : Value) : (w.setCell a v).heap.size = w.heap.size := by simp [World.setCell]
theorem step_inv {w wr w1 : World} {S S1 : Nat → Bool} {N g : Nat} {ds rs : List Ex} {y : Ex} {q' : Option Addr} {d' : Nat}
    (hd : Row (DoneE wr S wr.heap.size) 4 ds g 0) (hp : Row (PendE wr w N) 4 (y :: rs) g (ds.length * 4)) (hg : g < wr.heap.size) (hfz : ∀ o, wr.frozen? ⟨g, o, none⟩ = false) (hW : Wr S wr.heap.size wr) (hSg : ∀ k, S k = true → g < k)
    (hB1 : Below wr.heap.size wr w1) (hIn : y.args.In (cut S1 w1) w1.heap.size q') (hW1 : Wr S1 w1.heap.size w1) (hS1 : ∀ k, S1 k = true → wr.heap.size ≤ k) :
    Row (DoneE (w1.setCell ⟨g, ds.length * 4 + 3, none⟩ (.slice q' y.args.len d')) (fun k => S k || S1 k) (w1.setCell ⟨g, ds.length * 4 + 3, none⟩ (.slice q' y.args.len d')).heap.size) 4 (ds ++ [y]) g 0 ∧
    Row (PendE (w1.setCell ⟨g, ds.length * 4 + 3, none⟩ (.slice q' y.args.len d')) w N) 4 rs g ((ds ++ [y]).length * 4) ∧ g < (w1.setCell ⟨g, ds.length * 4 + 3, none⟩ (.slice q' y.args.len d')).heap.size ∧
    (∀ o, (w1.setCell ⟨g, ds.length * 4 + 3, none⟩ (.slice q' y.args.len d')).frozen? ⟨g, o, none⟩ = false) ∧
    Wr (fun k => S k || S1 k) (w1.setCell ⟨g, ds.length * 4 + 3, none⟩ (.slice q' y.args.len d')).heap.size (w1.setCell ⟨g, ds.length * 4 + 3, none⟩ (.slice q' y.args.len d')) ∧ ∀ k, (S k || S1 k) = true → g < k := by
  obtain ⟨W, hWd⟩ : ∃ W, W = w1.setCell ⟨g, ds.length * 4 + 3, none⟩ (.slice q' y.args.len d') := ⟨_, rfl⟩
  rw [← hWd]
  have hz : W.heap.size = w1.heap.size := by rw [hWd]; exact set_size _ _ _
  obtain ⟨⟨q, d, e0, e1, e2, e3, hok⟩, hrs⟩ := hp
  have hot : ∀ b o v, (b ≠ g ∨ o ≠ ds.length * 4 + 3) → w1.cell? ⟨b, o, none⟩ = some v → W.cell? ⟨b, o, none⟩ = some v := fun b o v h hv => by
    rw [hWd, World.cell?_setCell_other _ _ _ _ (fun e => by cases e; rcases h with h | h <;> exact h rfl)]; exact hv
  have hold : ∀ b o v, b < wr.heap.size → (b ≠ g ∨ o ≠ ds.length * 4 + 3) → wr.cell? ⟨b, o, none⟩ = some v → W.cell? ⟨b, o, none⟩ = some v := fun b o v hb h hv => hot b o v h ((hB1.cell (p := ⟨b, o, none⟩) hb).trans hv)
  have h3 : W.cell? ⟨g, ds.length * 4 + 3, none⟩ = some (.slice q' y.args.len d') := by rw [hWd]; exact World.cell?_setCell_same _ _ _ ((hB1.cell (p := ⟨g, _, none⟩) hg).trans e3)
  have hfW : ∀ b o, W.frozen? ⟨b, o, none⟩ = w1.frozen? ⟨b, o, none⟩ := fun b o => by rw [hWd]; exact World.frozen?_setCells g [_] _ w1 ⟨b, o, none⟩
  have hor : ∀ k, (S k || S1 k) = true → S k = true ∨ S1 k = true := fun k h => by simpa using h
  have hlS : Le (cut S wr) (cut (fun k => S k || S1 k) W) := Le.cut2 fun b hb => ⟨by simp [hb], fun o v hv => hold b o v (hW b hb).1 (.inl (by have := hSg b hb; omega)) hv⟩
  have hlS1 : Le (cut S1 w1) (cut (fun k => S k || S1 k) W) := Le.cut2 fun b hb => ⟨by simp [hb], fun o v hv => hot b o v (.inl (by have := hS1 b hb; omega)) hv⟩
  have hM : wr.heap.size ≤ W.heap.size := by rw [hz]; exact hB1.size
  refine ⟨Row.snoc ds y 0 (Row.imp2 ds 0 (fun x i hi ⟨p, c, a0, a1, a2, a3, ha⟩ => ⟨p, c, hold _ _ _ hg (.inr (by omega)) a0, hold _ _ _ hg (.inr (by omega)) a1, hold _ _ _ hg (.inr (by omega)) a2, hold _ _ _ hg (.inr (by omega)) a3, ha.le hlS hM⟩) hd) ?_, ?_, Nat.lt_of_lt_of_le hg hM, fun o => ?_, fun b hb => ?_, fun k hk => ?_⟩
  · rw [Nat.zero_add]
    exact ⟨q', d', hold _ _ _ hg (.inr (by omega)) e0, hold _ _ _ hg (.inr (by omega)) e1, hold _ _ _ hg (.inr (by omega)) e2, h3, hIn.le hlS1 (by rw [hz]; exact Nat.le_refl _), hok.2⟩
  · rw [show (ds ++ [y]).length * 4 = ds.length * 4 + 4 by simp; omega]
    exact Row.imp2 rs _ (fun x i hi ⟨p, c, a0, a1, a2, a3, ha⟩ => ⟨p, c, hold _ _ _ hg (.inr (by omega)) a0, hold _ _ _ hg (.inr (by omega)) a1, hold _ _ _ hg (.inr (by omega)) a2, hold _ _ _ hg (.inr (by omega)) a3, ha⟩) hrs
  · rw [hfW]; exact (World.frozen?_of_block (hB1.block g hg)).trans (hfz o)
  · rcases hor b hb with h | h
    · have h1 := hW b h
      exact ⟨Nat.lt_of_lt_of_le h1.1 hM, fun o => by rw [hfW]; exact (World.frozen?_of_block (hB1.block b h1.1)).trans (h1.2 o)⟩
    · have h1 := hW1 b h
      exact ⟨by rw [hz]; exact h1.1, fun o => by rw [hfW]; exact h1.2 o⟩
  · rcases hor k hk with h | h
    · exact hSg k h
    · have := hS1 k h; omega
set_option maxRecDepth 100000 in
set_option maxHeartbeats 3200000 in
theorem cpe_step (n : Nat) (ih : CpE n) : CpE (n + 1) := by
  intro l hsz hbig p c N w h hN
  have IH := Lib.hid ih
  have HNN := Lib.hid (And.intro hN (And.intro hsz hbig))
  obtain ⟨hm, hs⟩ := h
  obtain ⟨b, o, hp, ha⟩ : ∃ b o, (l.len = 0 ∨ p = some ⟨b, o, none⟩) ∧ l.At w N b o := by
    rcases hs with h0 | ⟨b, o, hp, hb, ha⟩
    · exact ⟨0, 0, .inl h0, by cases l with | nil => trivial | cons => simp [Exs.len] at h0⟩
    · exact ⟨b, o, .inr hp, ha⟩
  obtain ⟨news, n1, n2, n3, n4⟩ := ex_news l b o ha
  have HFr := Lib.hid (freshEx_any p l.len c news w ⟨n1, by rcases hp with h0 | h0; (· exact .inl h0); (· exact .inr ⟨b, o, h0, n3⟩)⟩ n2 (Nat.le_trans (exs_len_size l) hbig))
  have HN4 := Lib.hid n4
  have HL := Lib.hid (Exs.toL_len l)
  have HSz := Lib.hid (fun (x : Ex) (hx : x ∈ l.toL) => show x.args.size < n ∧ x.args.size ≤ 1048576 from by
    have h1 := Exs.toL_size hx
    obtain ⟨op, wd, nm, ar⟩ := x
    simp only [Ex.size, Ex.args] at h1 ⊢
    omega)
  clear ih hN hsz hbig hs hp ha n1 n2 n3 n4
  go_enter Try.func48, Try.ntmps48
  go_wp2_with fail
  refine HFr.out.mono ?_
  rintro z w1 ⟨v, rfl, hown, hB⟩
  rcases hown.2 with ⟨rfl, h0⟩ | ⟨g, cap, cur, rfl, hg, hk, hnc, hcp, hcs, ht⟩
  · have HE := Lib.hid (And.intro hB h0)
    clear hown hB HFr
    have h0i : ¬ (0 : Int) < 0 := by omega
    go_wp2_with fail
    go_loopw [6, 11] (fun s6 i wr => i = .int .i64 0 ∧ wr = w1) (fun _ _ _ => 0)
    case atStart => exact ⟨rfl, rfl⟩
    case round =>
      obtain ⟨rfl, rfl⟩ := hrel
      go_wp2_with fail
      go_ret
      exact ⟨none, 0, fun _ => false, by rw [HE.out.2]; rfl, HE.out.1, ⟨by rw [HE.out.2]; exact Nat.zero_le _, .inl HE.out.2⟩, (fun _ h => (by cases h)), (fun _ h => (by cases h))⟩
  · have HG := Lib.hid (show g < w1.heap.size ∧ (∀ o, w1.frozen? ⟨g, o, none⟩ = false) from ⟨lt_blk hk, fun o => by simp [World.frozen?, hk]⟩)
    have HP0 := Lib.hid (HN4.out w1 g 0 fun j u hu => by
      rw [Nat.zero_add]
      rw [← ht, List.getElem?_take] at hu
      split at hu
      · exact cell_blk hk (by rw [← Array.getElem?_toList]; exact hu)
      · cases hu)
    have HB := Lib.hid hB
    have HGw := Lib.hid hg
    clear hown hB hk hcs ht HFr hg HN4
    go_wp2_with fail
    go_loopw [6, 11] (fun s6 i wr => ∃ (ds rs : List Ex) (S : Nat → Bool), i = .int .i64 ds.length ∧ ds.length + rs.length = l.len ∧ Hid (l.toL = ds ++ rs) ∧ Hid (Row (DoneE wr S wr.heap.size) 4 ds g 0) ∧ Hid (Row (PendE wr w N) 4 rs g (ds.length * 4)) ∧ Hid (Below w.heap.size w wr ∧ g < wr.heap.size ∧ (∀ o, wr.frozen? ⟨g, o, none⟩ = false) ∧ Wr S wr.heap.size wr ∧ ∀ k, S k = true → g < k)) (fun _ i _ => l.len - (intOf i).toNat)
    case atStart => exact ⟨[], l.toL, fun _ => false, rfl, by have := HL.out; simp; omega, Lib.hid rfl, Lib.hid trivial, Lib.hid HP0.out, Lib.hid ⟨HB.out, HG.out.1, HG.out.2, (fun _ h => (by cases h)), (fun _ h => (by cases h))⟩⟩
    case round =>
      obtain ⟨ds, rs, S, rfl, hk, hE, hD, hPd, hX⟩ := hrel
      obtain ⟨wp, rfl⟩ : ∃ wp : World, wp = wr := ⟨_, rfl⟩
      cases rs with
      | nil =>
        simp only [List.length_nil] at hk
        have hge : ¬ ds.length < l.len := by omega
        have HEnd := Lib.hid (show ∃ q d S, Value.slice (some ⟨g, 0, none⟩) l.len cap = .slice q l.len d ∧ Below w.heap.size w wp ∧ l.In (cut S wp) wp.heap.size q ∧ Wr S wp.heap.size wp ∧ ∀ k, S k = true → w.heap.size ≤ k from
          ⟨_, _, fun k => S k || k == g, rfl, hX.out.1, ⟨hm, .inr ⟨g, 0, rfl, hX.out.2.1, done_all (S := S) (by simp) (fun k hk => by simp [hk]) l 0 (by rw [hE.out, List.append_nil]; exact hD.out)⟩⟩, fun b hb => by
            simp only [Bool.or_eq_true, beq_iff_eq] at hb
            rcases hb with hb | rfl
            · exact hX.out.2.2.2.1 b hb
            · exact ⟨hX.out.2.1, hX.out.2.2.1⟩, fun k hk => by
            simp only [Bool.or_eq_true, beq_iff_eq] at hk
            have := HGw.out
            rcases hk with hk | rfl
            · have := hX.out.2.2.2.2 k hk; omega
            · omega⟩)
        clear hD hPd hE
        go_wp2_with fail
        go_ret
        obtain ⟨q, d, S, h1, h2⟩ := HEnd.out
        exact ⟨q, d, S, by rw [← h1]; rfl, h2⟩
      | cons y rs =>
        simp only [List.length_cons] at hk
        have hlt : ds.length < l.len := by omega
        obtain ⟨⟨q, d, e0, e1, e2, e3, hok⟩, _⟩ := hPd.out
        have hys := HSz.out y (by rw [hE.out]; simp)
        have HC := Lib.hid (renew_of n IH.out y hys.1 hys.2 q d N g (ds.length * 4) wp (hok.1.later (hX.out.1.mono HNN.out.1) (Nat.le_refl N)) (Nat.le_trans HNN.out.1 hX.out.1.size) e3 (hX.out.2.2.1 _))
        clear e0 e1 e2 e3 hok hys
        go_wp2_with fail
        refine HC.out.mono ?_
        rintro z w2 ⟨rfl, w1', q', d', S1, rfl, hB1, hIn, hWr1, hS1⟩
        have HI := Lib.hid (step_inv (d' := d') hD.out hPd.out hX.out.2.1 hX.out.2.2.1 hX.out.2.2.2.1 hX.out.2.2.2.2 hB1 hIn hWr1 hS1)
        have HBB := Lib.hid ((hX.out.1.trans (hB1.mono hX.out.1.size)).setCell (p := ⟨g, ds.length * 4 + 3, none⟩) HGw.out (.slice q' y.args.len d'))
        clear hB1 hIn hWr1 hS1 HC
        go_wp2_with fail
        go_roundw
        case rel => exact ⟨ds ++ [y], rs, fun k => S k || S1 k, by rw [List.length_append]; go_num, by simp; omega, Lib.hid (by rw [hE.out]; simp), Lib.hid HI.out.1, Lib.hid HI.out.2.1, Lib.hid ⟨HBB.out, HI.out.2.2⟩⟩
        case measure => simp [intOf]; omega
theorem cpe_to : ∀ n, CpE n
  | 0 => fun _ h => absurd h (Nat.not_lt_zero _)
  | n + 1 => cpe_step n (cpe_to n)
end Go.Proofs.Ytnghehcjklkoeaa
/- A copy in new memory: a row whose things are renewed one by one, of any kind. -/
namespace Go.Proofs.Ytnghehcjklkoeaa
open Go.RowKit

/-- behind it all is as it was but one block, and what is new -/
structure Bt (g : Nat) (w w' : World) : Prop where
  os : w'.os = w.os
  tape : w'.tape = w.tape
  output : w'.output = w.output
  size : w.heap.size ≤ w'.heap.size
  block : ∀ k, k < w.heap.size → k ≠ g → w'.heap[k]? = w.heap[k]?
  fz : g < w.heap.size → ∀ o, w'.frozen? ⟨g, o, none⟩ = w.frozen? ⟨g, o, none⟩
theorem Bt.refl (g : Nat) (w : World) : Bt g w w := ⟨rfl, rfl, rfl, Nat.le_refl _, fun _ _ _ => rfl, fun _ _ => rfl⟩
theorem Bt.trans {g : Nat} {a b c : World} (h : Bt g a b) (k : Bt g b c) : Bt g a c :=
  ⟨k.os.trans h.os, k.tape.trans h.tape, k.output.trans h.output, Nat.le_trans h.size k.size, fun i hi hn => (k.block i (Nat.lt_of_lt_of_le hi h.size) hn).trans (h.block i hi hn), fun hg o => (k.fz (Nat.lt_of_lt_of_le hg h.size) o).trans (h.fz hg o)⟩
theorem Bt.of {g : Nat} {w w' : World} (h : Below w.heap.size w w') : Bt g w w' :=
  ⟨h.os, h.tape, h.output, h.size, fun k hk _ => h.block k hk, fun hg _o => World.frozen?_of_block (h.block g hg)⟩
theorem Bt.drew (g : Nat) (w : World) : Bt g w w.drew := Bt.of (Below.refl _ w).drew
theorem Bt.put (g o : Nat) (w : World) (v : Value) : Bt g w (w.setCell ⟨g, o, none⟩ v) :=
  ⟨rfl, rfl, rfl, by rw [set_size]; exact Nat.le_refl _, fun k _ hk => Below.heap_setCell _ _ _ _ hk, fun _ o' => World.frozen?_setCells g [v] o w ⟨g, o', none⟩⟩
theorem Bt.below {g N : Nat} {w w' : World} (h : Bt g w w') (hg : N ≤ g) (hN : N ≤ w.heap.size) : Below N w w' :=
  ⟨h.os, h.tape, h.output, h.size, fun k hk => h.block k (Nat.lt_of_lt_of_le hk hN) (by omega)⟩
theorem Bt.cell {g : Nat} {w w' : World} (h : Bt g w w') {b o : Nat} {v : Value} (hb : b ≠ g) (hv : w.cell? ⟨b, o, none⟩ = some v) : w'.cell? ⟨b, o, none⟩ = some v := by
  have := h.block b (World.block_lt_of_cell? _ _ hv) hb
  simp only [World.cell?] at hv ⊢
  rw [this]; exact hv
theorem Bt.frozen {g : Nat} {w w' : World} (h : Bt g w w') {b : Nat} (hb : b < w.heap.size) (o : Nat) : w'.frozen? ⟨b, o, none⟩ = w.frozen? ⟨b, o, none⟩ := by
  by_cases e : b = g
  · subst e; exact h.fz hb o
  · exact World.frozen?_of_block (h.block b hb e)

/-- a kind of things: their cells by where their lists lie, and that these lie there -/
structure Knd (α σ : Type) where
  k : Nat
  cells : α → σ → Array Value
  ok : World → Nat → α → σ → Prop
  size : ∀ x s, (cells x s).size = k
  le : ∀ {w w' : World} {N M : Nat} {x : α} {s : σ}, ok w N x s → Le w w' → N ≤ M → ok w' M x s
namespace Knd
variable {α σ : Type} (K : Knd α σ)
/-- it stands there -/
def Here (w : World) (x : α) (s : σ) (b o : Nat) : Prop := ∀ j u, (K.cells x s)[j]? = some u → w.cell? ⟨b, o + j, none⟩ = some u
/-- one whose lists are new -/
def Done (w : World) (S : Nat → Bool) (M : Nat) (x : α) (b o : Nat) : Prop := ∃ s, K.Here w x s b o ∧ K.ok (cut S w) M x s
/-- one whose lists are the old one's -/
def Pend (w v : World) (N : Nat) (x : α) (b o : Nat) : Prop := ∃ s, K.Here w x s b o ∧ K.ok v N x s
variable {K}
theorem Here.mono {w w' : World} {x : α} {s : σ} {b o : Nat} (h : K.Here w x s b o) (hw : ∀ j, j < K.k → ∀ u, w.cell? ⟨b, o + j, none⟩ = some u → w'.cell? ⟨b, o + j, none⟩ = some u) : K.Here w' x s b o := fun j u hu =>
  hw j (by have := (Array.getElem?_eq_some_iff.1 hu).1; rw [K.size] at this; exact this) u (h j u hu)
/-- a row's cells -/
theorem news {w : World} {N : Nat} {At : α → Nat → Nat → Prop} (hop : ∀ x b o, At x b o → ∃ s, K.Here w x s b o ∧ K.ok w N x s) (h1 : ∀ x s, ∀ u ∈ K.cells x s, u.oneCell' = true) : ∀ (l : List α) (b o : Nat), Row At K.k l b o → ∃ news : List Value, news.length = l.length * K.k ∧ (∀ u ∈ news, u.oneCell' = true) ∧ (∀ j u, news[j]? = some u → w.cell? ⟨b, o + j, none⟩ = some u) ∧
    ∀ (W : World) (g q : Nat), (∀ j u, news[j]? = some u → W.cell? ⟨g, q + j, none⟩ = some u) → Row (K.Pend W w N) K.k l g q
  | [], b, o, _ => ⟨[], (by simp), (fun u h => (by cases h)), (fun j u h => (by simp at h)), fun _ _ _ _ => trivial⟩
  | x :: r, b, o, h => by
    obtain ⟨s, hs, hok⟩ := hop x b o h.1
    obtain ⟨m, a1, a2, a3, a4⟩ := news hop h1 r b (o + K.k) h.2
    have hz : (K.cells x s).toList.length = K.k := by rw [Array.length_toList, K.size]
    refine ⟨(K.cells x s).toList ++ m, by rw [List.length_append, hz, a1, List.length_cons, Nat.add_mul]; omega, ?_, ?_, ?_⟩
    · intro u hu
      rcases List.mem_append.1 hu with hu | hu
      · exact h1 x s u (by simpa using hu)
      · exact a2 u hu
    · intro j u hu
      rcases Nat.lt_or_ge j K.k with hj | hj
      · rw [List.getElem?_append_left (by omega), Array.getElem?_toList] at hu
        exact hs j u hu
      · rw [List.getElem?_append_right (by omega), hz] at hu
        have := a3 _ u hu
        rw [show o + K.k + (j - K.k) = o + j by omega] at this; exact this
    · intro W g q H
      refine ⟨⟨s, fun j u hu => H j u ?_, hok⟩, a4 W g (q + K.k) fun j u hu => ?_⟩
      · have hj : j < K.k := by have := (Array.getElem?_eq_some_iff.1 hu).1; rw [K.size] at this; exact this
        rw [List.getElem?_append_left (by omega), Array.getElem?_toList]; exact hu
      · have := H (K.k + j) u (by rw [List.getElem?_append_right (by omega), hz, show K.k + j - K.k = j by omega]; exact hu)
        rw [show q + (K.k + j) = q + K.k + j by omega] at this; exact this
theorem step {w wr w2 : World} {S S1 : Nat → Bool} {N g : Nat} {ds rs : List α} {y : α}
    (hd : Row (K.Done wr S wr.heap.size) K.k ds g 0) (hp : Row (K.Pend wr w N) K.k (y :: rs) g (ds.length * K.k)) (hg : g < wr.heap.size) (hfz : ∀ o, wr.frozen? ⟨g, o, none⟩ = false) (hW : Wr S wr.heap.size wr) (hSg : ∀ k, S k = true → g < k)
    (hB : Bt g wr w2) (hC : ∀ j, (j < ds.length * K.k ∨ ds.length * K.k + K.k ≤ j) → w2.cell? ⟨g, j, none⟩ = wr.cell? ⟨g, j, none⟩)
    (hD : K.Done w2 S1 w2.heap.size y g (ds.length * K.k)) (hW1 : Wr S1 w2.heap.size w2) (hS1 : ∀ k, S1 k = true → wr.heap.size ≤ k) :
    Row (K.Done w2 (fun k => S k || S1 k) w2.heap.size) K.k (ds ++ [y]) g 0 ∧ Row (K.Pend w2 w N) K.k rs g ((ds ++ [y]).length * K.k) ∧ g < w2.heap.size ∧
    (∀ o, w2.frozen? ⟨g, o, none⟩ = false) ∧ Wr (fun k => S k || S1 k) w2.heap.size w2 ∧ ∀ k, (S k || S1 k) = true → g < k := by
  obtain ⟨_, hrs⟩ := hp
  have hor : ∀ k, (S k || S1 k) = true → S k = true ∨ S1 k = true := fun k h => by simpa using h
  have hlS : Le (cut S wr) (cut (fun k => S k || S1 k) w2) := Le.cut2 fun b hb => ⟨by simp [hb], fun o v hv => hB.cell (by have := hSg b hb; omega) hv⟩
  have hlS1 : Le (cut S1 w2) (cut (fun k => S k || S1 k) w2) := Le.cut2 fun b hb => ⟨by simp [hb], fun o v hv => hv⟩
  have hlen : (ds ++ [y]).length * K.k = ds.length * K.k + K.k := by rw [List.length_append, List.length_singleton, Nat.add_mul, Nat.one_mul]
  refine ⟨Row.snoc ds y 0 (Row.imp2 ds 0 (fun x i hi ⟨s, hs, hok⟩ => ⟨s, hs.mono fun j hj u hu => by
    have h1 : (i + 1) * K.k ≤ ds.length * K.k := Nat.mul_le_mul_right _ hi
    rw [Nat.add_mul, Nat.one_mul] at h1
    rw [hC _ (.inl (by omega))]; exact hu, K.le hok hlS hB.size⟩) hd) ?_, ?_, Nat.lt_of_lt_of_le hg hB.size, fun o => (hB.frozen hg o).trans (hfz o), fun b hb => ?_, fun k hk => ?_⟩
  · rw [Nat.zero_add]
    obtain ⟨s, hs, hok⟩ := hD
    exact ⟨s, hs, K.le hok hlS1 (Nat.le_refl _)⟩
  · rw [hlen]
    exact Row.imp2 rs _ (fun x i hi ⟨s, hs, hok⟩ => ⟨s, hs.mono fun j hj u hu => by rw [hC _ (.inr (by omega))]; exact hu, hok⟩) hrs
  · rcases hor b hb with h | h
    · have h1 := hW b h
      exact ⟨Nat.lt_of_lt_of_le h1.1 hB.size, fun o => (hB.frozen h1.1 o).trans (h1.2 o)⟩
    · exact hW1 b h
  · rcases hor k hk with h | h
    · exact hSg k h
    · have := hS1 k h; omega
end Knd
theorem St.Ok.le {w w' : World} {N M : Nat} {x : St} {s : StP} (h : x.Ok w N s) (hw : Le w w') (hM : N ≤ M) : x.Ok w' M s :=
  ⟨⟨h.1.1, h.1.2.imp hM fun x b o _ => StrAt.le hw x b o⟩, h.2.1.le hw hM, h.2.2.1.le hw hM, h.2.2.2.1.le hw hM, h.2.2.2.2.1.le hw hM, h.2.2.2.2.2.1.le hw hM, h.2.2.2.2.2.2⟩
theorem Fnc.Ok.le {w w' : World} {N M : Nat} {x : Fnc} {s : FncP} (h : x.Ok w N s) (hw : Le w w') (hM : N ≤ M) : x.Ok w' M s :=
  ⟨h.1.imp hM fun x b o _ => Vr.At.le hw x b o, h.2.1.imp hM fun x b o _ => Vr.At.le hw x b o, ⟨h.2.2.1.1, h.2.2.1.2.imp hM fun x b o _ => StrAt.le hw x b o⟩, h.2.2.2.le hw hM⟩
def stK : Knd St StP := ⟨16, St.cells, fun w N x s => x.Ok w N s, fun _ _ => rfl, fun h hw hM => St.Ok.le h hw hM⟩
def fnK : Knd Fnc FncP := ⟨5, Fnc.cells, fun w N x s => x.Ok w N s, fun _ _ => rfl, fun h hw hM => Fnc.Ok.le h hw hM⟩
end Go.Proofs.Ytnghehcjklkoeaa
