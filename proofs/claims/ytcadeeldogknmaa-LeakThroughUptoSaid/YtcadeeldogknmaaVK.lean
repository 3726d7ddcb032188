/- R2, Z2, VK as one. -/
import Derived.Test.YtcadeeldogknmaaFM
import Derived.Test.YtcadeeldogknmaaT3
import Derived.Test.YtcadeeldogknmaaL2
import Derived.Maps.AppendAt
import Derived.Laws.AppendOwnNone
import Derived.WalkKit
import Derived.Deep.RegionLaw
import Derived.OrdersHeld
import Derived.Deep.RegionHeld
import Derived.ProofKit
/- The table of deeds. -/
namespace Go.Proofs.Ytcadeeldogknmaa
open Go.RowKit

def deedT : List (Int × Nat) := [(1, 36), (2, 37), (3, 38), (4, 39), (5, 40), (6, 41), (7, 42), (8, 43), (9, 44)]
set_option maxHeartbeats 800000 in
theorem deeds_any (w : World) : Calls Try.prog 21 #[] w (MapAt deedT w) := by
  have hmm := @run_makeMap Try.prog
  have i0 := fun wx => run_put_ft0 Try.underlying61 Try.underlying34 deedT 1 36 rfl wx
  have i1 := fun wx => run_put_ft Try.underlying61 Try.underlying34 deedT 1 2 37 rfl (by rfl) wx
  have i2 := fun wx => run_put_ft Try.underlying61 Try.underlying34 deedT 2 3 38 rfl (by rfl) wx
  have i3 := fun wx => run_put_ft Try.underlying61 Try.underlying34 deedT 3 4 39 rfl (by rfl) wx
  have i4 := fun wx => run_put_ft Try.underlying61 Try.underlying34 deedT 4 5 40 rfl (by rfl) wx
  have i5 := fun wx => run_put_ft Try.underlying61 Try.underlying34 deedT 5 6 41 rfl (by rfl) wx
  have i6 := fun wx => run_put_ft Try.underlying61 Try.underlying34 deedT 6 7 42 rfl (by rfl) wx
  have i7 := fun wx => run_put_ft Try.underlying61 Try.underlying34 deedT 7 8 43 rfl (by rfl) wx
  have i8 := fun wx => run_put_ft Try.underlying61 Try.underlying34 deedT 8 9 44 rfl (by rfl) wx
  go_enter Try.func21, Try.ntmps21
  go_wp2
  go_ret
  exact mapAt_new deedT 9 rfl w
theorem deed_zero (w : World) : (zeroValue 81).run Try.prog w = .ok .nilFunc w := by kernel_rfl
end Go.Proofs.Ytcadeeldogknmaa
/- Lists that are made: where they lie. -/
namespace Go.Proofs.Ytcadeeldogknmaa
open Go.RowKit

/-- of the memory some blocks alone -/
def cut (S : Nat → Bool) (w : World) : World := { w with heap := w.heap.mapIdx fun i o => if S i then o else .cells #[] 0 (0, 0) }
theorem cell_cut (S : Nat → Bool) (w : World) (b o : Nat) : (cut S w).cell? ⟨b, o, none⟩ = if S b then w.cell? ⟨b, o, none⟩ else none := by
  simp only [World.cell?, cut, Array.getElem?_mapIdx]
  cases w.heap[b]? with
  | none => cases S b <;> rfl
  | some x => cases S b <;> simp
theorem cell_cut_some {S : Nat → Bool} {w : World} {b o : Nat} {v : Value} (h : (cut S w).cell? ⟨b, o, none⟩ = some v) : S b = true ∧ w.cell? ⟨b, o, none⟩ = some v := by
  rw [cell_cut] at h
  cases hs : S b with
  | false => rw [hs] at h; cases h
  | true => rw [hs] at h; exact ⟨rfl, h⟩
/-- each cell of the one is the other's -/
def Le (w w' : World) : Prop := ∀ b o v, w.cell? ⟨b, o, none⟩ = some v → w'.cell? ⟨b, o, none⟩ = some v
theorem Le.refl (w : World) : Le w w := fun _ _ _ h => h
theorem Le.trans {a b c : World} (h : Le a b) (k : Le b c) : Le a c := fun _ _ _ hv => k _ _ _ (h _ _ _ hv)
theorem Le.cut (S : Nat → Bool) (w : World) : Le (cut S w) w := fun _ _ _ h => (cell_cut_some h).2
theorem Le.cut2 {S T : Nat → Bool} {w w' : World} (h : ∀ b, S b = true → T b = true ∧ ∀ o v, w.cell? ⟨b, o, none⟩ = some v → w'.cell? ⟨b, o, none⟩ = some v) : Le (Ytcadeeldogknmaa.cut S w) (Ytcadeeldogknmaa.cut T w') := fun b o v hv => by
  obtain ⟨h1, h2⟩ := cell_cut_some hv
  rw [cell_cut, (h b h1).1]; exact (h b h1).2 o v h2
theorem Ints.le {w w' : World} (hw : Le w w') : ∀ (xs : List Int) (b o : Nat), Ints w xs b o → Ints w' xs b o
  | [], _, _, _ => trivial
  | _ :: xs, b, o, h => ⟨hw _ _ _ h.1, Ints.le hw xs b (o + 1) h.2⟩
theorem Sl.imp' {N M : Nat} {p : Option Addr} {n : Nat} {A B : Nat → Nat → Prop} (h : Sl N p n A) (hN : N ≤ M) (hAB : ∀ b o, A b o → B b o) : Sl M p n B := h.imp hN fun b o _ => hAB b o
mutual
theorem Lf.At.le {w w' : World} {N M : Nat} (hw : Le w w') (hM : N ≤ M) : ∀ (l : Lf) (b o : Nat), Lf.At w N l b o → Lf.At w' M l b o
  | .nil, _, _, _ => trivial
  | .node k is t subs rest, b, o, h => by
    obtain ⟨h0, ⟨p, c, h1, s1⟩, h2, ⟨q, d, h3, s3⟩, h4⟩ := h
    exact ⟨hw _ _ _ h0, ⟨p, c, hw _ _ _ h1, s1.imp' hM fun b' o' ha => Ints.le hw is b' o' ha⟩, hw _ _ _ h2,
      ⟨q, d, hw _ _ _ h3, s3.imp' hM fun b' o' ha => Ls.At.le hw hM subs b' o' ha⟩, Lf.At.le hw hM rest b (o + 4) h4⟩
theorem Ls.At.le {w w' : World} {N M : Nat} (hw : Le w w') (hM : N ≤ M) : ∀ (l : Ls) (b o : Nat), Ls.At w N l b o → Ls.At w' M l b o
  | .nil, _, _, _ => trivial
  | .sub l rest, b, o, h => by
    obtain ⟨⟨p, c, h1, s1⟩, h4⟩ := h
    exact ⟨⟨p, c, hw _ _ _ h1, s1.imp' hM fun b' o' ha => Lf.At.le hw hM l b' o' ha⟩, Ls.At.le hw hM rest b (o + 1) h4⟩
end
theorem Lf.In.le {w w' : World} {N M : Nat} {l : Lf} {p : Option Addr} (h : l.In w N p) (hw : Le w w') (hM : N ≤ M) : l.In w' M p := Sl.imp' h hM fun b o ha => Lf.At.le hw hM l b o ha
theorem Ls.In.le {w w' : World} {N M : Nat} {l : Ls} {p : Option Addr} (h : l.In w N p) (hw : Le w w') (hM : N ≤ M) : l.In w' M p := Sl.imp' h hM fun b o ha => Ls.At.le hw hM l b o ha

/-- all is as it was, but the rewriter's block and one row's -/
structure Ch (g : Nat) (row : Option Nat) (w w' : World) : Prop where
  os : w'.os = w.os
  tape : w'.tape = w.tape
  output : w'.output = w.output
  size : w.heap.size ≤ w'.heap.size
  block : ∀ k, k < w.heap.size → k ≠ g → row ≠ some k → w'.heap[k]? = w.heap[k]?
  fz : g < w.heap.size → ∀ o, w'.frozen? ⟨g, o, none⟩ = w.frozen? ⟨g, o, none⟩
/-- the row is the old one's, or new -/
def OwnTo (w : World) (v v' : Value) : Prop := v'.ownBlock = v.ownBlock ∨ ∃ k, v'.ownBlock = some k ∧ w.heap.size ≤ k
theorem OwnTo.refl (w : World) (v : Value) : OwnTo w v v := .inl rfl
theorem OwnTo.trans {w w' : World} {a b c : Value} (h : OwnTo w a b) (k : OwnTo w' b c) (hs : w.heap.size ≤ w'.heap.size) : OwnTo w a c := by
  rcases k with k | ⟨x, k, hx⟩
  · rcases h with h | ⟨y, h, hy⟩
    · exact .inl (k.trans h)
    · exact .inr ⟨y, k.trans h, hy⟩
  · exact .inr ⟨x, k, Nat.le_trans hs hx⟩
theorem Ch.refl (g : Nat) (row : Option Nat) (w : World) : Ch g row w w := ⟨rfl, rfl, rfl, Nat.le_refl _, fun _ _ _ _ => rfl, fun _ _ => rfl⟩
theorem Ch.trans {g : Nat} {row row' : Option Nat} {a b c : World} (h : Ch g row a b) (k : Ch g row' b c) (hr : row' = row ∨ ∃ x, row' = some x ∧ a.heap.size ≤ x) : Ch g row a c :=
  ⟨k.os.trans h.os, k.tape.trans h.tape, k.output.trans h.output, Nat.le_trans h.size k.size, fun i hi hn hw => (k.block i (Nat.lt_of_lt_of_le hi h.size) hn (fun e => by
    rcases hr with hr | ⟨x, hr, hx⟩
    · exact hw (hr ▸ e)
    · rw [hr] at e; injection e with e; omega)).trans (h.block i hi hn hw), fun hg o => (k.fz (Nat.lt_of_lt_of_le hg h.size) o).trans (h.fz hg o)⟩
theorem Ch.of {g : Nat} (row : Option Nat) {w w' : World} (h : Below w.heap.size w w') : Ch g row w w' := ⟨h.os, h.tape, h.output, h.size, fun k hk _ _ => h.block k hk, fun hg _ => World.frozen?_of_block (h.block g hg)⟩
theorem Ch.grown {g : Nat} {row : Option Nat} {w w' : World} (h : w.grownBy w' row) (hg : row ≠ some g) : Ch g row w w' := ⟨h.os, h.tape, h.output, h.size, fun k hk _ hr => h.block k hk (fun e => hr e.symm), fun hl _ => World.frozen?_of_block (h.block g hl (fun e => hg e.symm))⟩
theorem Ch.put {g : Nat} (row : Option Nat) (w : World) (o : Nat) (v : Value) : Ch g row w (w.setCell ⟨g, o, none⟩ v) :=
  ⟨rfl, rfl, rfl, by simp [World.setCell], fun k _ hk _ => Below.heap_setCell _ _ _ _ hk, fun _ o' => World.frozen?_setCells g [v] o w ⟨g, o', none⟩⟩
theorem Ch.cell {g : Nat} {row : Option Nat} {w w' : World} (h : Ch g row w w') {b o : Nat} (hb : b < w.heap.size) (hn : b ≠ g) (hr : row ≠ some b) : w'.cell? ⟨b, o, none⟩ = w.cell? ⟨b, o, none⟩ := by
  simp only [World.cell?, h.block b hb hn hr]
theorem Ch.below {g B : Nat} {row : Option Nat} {w w' : World} (h : Ch g row w w') (hB : B ≤ w.heap.size) (hg : B ≤ g) (hr : ∀ k, row = some k → B ≤ k) : Below B w w' :=
  ⟨h.os, h.tape, h.output, h.size, fun k hk => h.block k (Nat.lt_of_lt_of_le hk hB) (by omega) (fun e => by have := hr k e; omega)⟩
theorem Ch.none {g : Nat} {row : Option Nat} {w w' : World} (h : Ch g Option.none w w') : Ch g row w w' := ⟨h.os, h.tape, h.output, h.size, fun k hk hn _ => h.block k hk hn (by simp), h.fz⟩
/-- the rewriter -/
structure RwS (w : World) (g : Nat) (st : Int) (mp m : Nat) : Prop where
  c0 : w.cell? ⟨g, 0, none⟩ = some (.int .u64 st)
  c1 : w.cell? ⟨g, 1, none⟩ = some (.map (some mp))
  c2 : w.cell? ⟨g, 2, none⟩ = some (.int .i64 m)
  z2 : w.frozen? ⟨g, 2, none⟩ = false
theorem RwS.lt {w : World} {g mp m : Nat} {st : Int} (h : RwS w g st mp m) : g < w.heap.size := World.block_lt_of_cell? _ _ h.c0
theorem RwS.later {w w' : World} {g mp m B : Nat} {st : Int} (h : RwS w g st mp m) (hB : Below B w w') (hg : g < B) : RwS w' g st mp m :=
  ⟨(hB.cell hg).trans h.c0, (hB.cell hg).trans h.c1, (hB.cell hg).trans h.c2, (World.frozen?_of_block (hB.block g hg)).trans h.z2⟩
theorem RwS.put {w : World} {g mp m : Nat} {st : Int} (h : RwS w g st mp m) (n : Nat) : RwS (w.setCell ⟨g, 2, none⟩ (.int .i64 n)) g st mp n :=
  ⟨(World.cell?_setCell_other _ _ _ _ (by simp)).trans h.c0, (World.cell?_setCell_other _ _ _ _ (by simp)).trans h.c1, World.cell?_setCell_same _ _ _ h.c2, by rw [show (w.setCell ⟨g, 2, none⟩ (.int .i64 n)).frozen? ⟨g, 2, none⟩ = w.frozen? ⟨g, 2, none⟩ from World.frozen?_setCells g [_] 2 w ⟨g, 2, none⟩]; exact h.z2⟩

/-- the cells of a list of nodes -/
def Lf.Cells (v : World) (N : Nat) : Lf → List Value → Prop
  | .nil, cs => cs = []
  | .node k is t subs r, cs => ∃ p c q d rest, cs = .int .i64 k :: .slice p is.length c :: .bool t :: .slice q subs.len d :: rest ∧ Sl N p is.length (Ints v is) ∧ Sl N q subs.len (Ls.At v N subs) ∧ Lf.Cells v N r rest
def Ls.Cells (v : World) (N : Nat) : Ls → List Value → Prop
  | .nil, cs => cs = []
  | .sub l r, cs => ∃ p c rest, cs = .slice p l.len c :: rest ∧ Sl N p l.len (Lf.At v N l) ∧ Ls.Cells v N r rest
theorem Lf.Cells.le {v v' : World} {N M : Nat} (hw : Le v v') (hM : N ≤ M) : ∀ (l : Lf) (cs : List Value), l.Cells v N cs → l.Cells v' M cs
  | .nil, _, h => h
  | .node k is t subs r, cs, h => by
    obtain ⟨p, c, q, d, rest, h0, h1, h2, h3⟩ := h
    exact ⟨p, c, q, d, rest, h0, h1.imp' hM fun b o => Ints.le hw is b o, h2.imp' hM fun b o => Ls.At.le hw hM subs b o, Lf.Cells.le hw hM r rest h3⟩
theorem Ls.Cells.le {v v' : World} {N M : Nat} (hw : Le v v') (hM : N ≤ M) : ∀ (l : Ls) (cs : List Value), l.Cells v N cs → l.Cells v' M cs
  | .nil, _, h => h
  | .sub l r, cs, h => by
    obtain ⟨p, c, rest, h0, h1, h2⟩ := h
    exact ⟨p, c, rest, h0, h1.imp' hM fun b o => Lf.At.le hw hM l b o, Ls.Cells.le hw hM r rest h2⟩
theorem Lf.Cells.cat {v : World} {N : Nat} {m : Lf} {ms : List Value} (hm : m.Cells v N ms) : ∀ (l : Lf) (cs : List Value), l.Cells v N cs → (l.cat m).Cells v N (cs ++ ms)
  | .nil, cs, h => by rw [show cs = [] from h]; exact hm
  | .node k is t subs r, cs, h => by
    obtain ⟨p, c, q, d, rest, rfl, h1, h2, h3⟩ := h
    exact ⟨p, c, q, d, rest ++ ms, rfl, h1, h2, Lf.Cells.cat hm r rest h3⟩
theorem Ls.Cells.cat {v : World} {N : Nat} {m : Ls} {ms : List Value} (hm : m.Cells v N ms) : ∀ (l : Ls) (cs : List Value), l.Cells v N cs → (l.cat m).Cells v N (cs ++ ms)
  | .nil, cs, h => by rw [show cs = [] from h]; exact hm
  | .sub l r, cs, h => by
    obtain ⟨p, c, rest, rfl, h1, h2⟩ := h
    exact ⟨p, c, rest ++ ms, rfl, h1, Ls.Cells.cat hm r rest h2⟩
theorem Lf.At.ofCells {v W : World} {N M g : Nat} (hw : Le v W) (hM : N ≤ M) : ∀ (l : Lf) (cs : List Value) (o : Nat), l.Cells v N cs → (∀ j u, cs[j]? = some u → W.cell? ⟨g, o + j, none⟩ = some u) → l.At W M g o
  | .nil, _, _, _, _ => trivial
  | .node k is t subs r, cs, o, h, H => by
    obtain ⟨p, c, q, d, rest, rfl, h1, h2, h3⟩ := h
    refine ⟨H 0 _ rfl, ⟨p, c, H 1 _ rfl, h1.imp' hM fun b o => Ints.le hw is b o⟩, H 2 _ rfl, ⟨q, d, H 3 _ rfl, h2.imp' hM fun b o => Ls.At.le hw hM subs b o⟩, Lf.At.ofCells hw hM r rest (o + 4) h3 fun j u hu => ?_⟩
    have := H (j + 4) u (by simpa using hu)
    rw [show o + (j + 4) = o + 4 + j by omega] at this; exact this
theorem Ls.At.ofCells {v W : World} {N M g : Nat} (hw : Le v W) (hM : N ≤ M) : ∀ (l : Ls) (cs : List Value) (o : Nat), l.Cells v N cs → (∀ j u, cs[j]? = some u → W.cell? ⟨g, o + j, none⟩ = some u) → l.At W M g o
  | .nil, _, _, _, _ => trivial
  | .sub l r, cs, o, h, H => by
    obtain ⟨p, c, rest, rfl, h1, h2⟩ := h
    refine ⟨⟨p, c, H 0 _ rfl, h1.imp' hM fun b o => Lf.At.le hw hM l b o⟩, Ls.At.ofCells hw hM r rest (o + 1) h2 fun j u hu => ?_⟩
    have := H (j + 1) u (by simpa using hu)
    rw [show o + (j + 1) = o + 1 + j by omega] at this; exact this
/-- a row of the call's own, what its cells name lying in other blocks of the call's own -/
def OutG (ty k : Nat) (C : World → Nat → List Value → Prop) (n : Nat) (w : World) (base : Nat) (v : Value) : Prop :=
  ∃ (news : List Value) (S : Nat → Bool), w.ownsRow base ty k v n news ∧ C (cut S w) w.heap.size news ∧ (∀ i, S i = true → base ≤ i ∧ i < w.heap.size) ∧ ∀ g, v.ownBlock = some g → S g = false
def MonoC (C : World → Nat → List Value → Prop) : Prop := ∀ v v' N M news, C v N news → Le v v' → N ≤ M → C v' M news
theorem own_mono {w : World} {B B' : Nat} {ty : TypeId} {k n : Nat} {v : Value} {xs : List Value} (h : w.ownsRow B ty k v n xs) (hB : B' ≤ B) : w.ownsRow B' ty k v n xs := by
  rcases h with ⟨h1, h2 | ⟨g, cap, cur, hv, hg, h3⟩⟩
  · exact ⟨h1, .inl h2⟩
  · exact ⟨h1, .inr ⟨g, cap, cur, hv, Nat.le_trans hB hg, h3⟩⟩
theorem own_keep {w w' : World} {B : Nat} {ty : TypeId} {k n : Nat} {v : Value} {xs : List Value} (h : w.ownsRow B ty k v n xs) (hB : ∀ g, v.ownBlock = some g → g < w.heap.size → B ≤ g → w'.heap[g]? = w.heap[g]?) : w'.ownsRow B ty k v n xs := by
  rcases h with ⟨h1, h2 | ⟨g, cap, cur, rfl, hg, hk, h3⟩⟩
  · exact ⟨h1, .inl h2⟩
  · exact ⟨h1, .inr ⟨g, cap, cur, rfl, hg, (hB g rfl (by exact (Array.getElem?_eq_some_iff.1 hk).1) hg).trans hk, h3⟩⟩
theorem OutG.mono {ty k : Nat} {C : World → Nat → List Value → Prop} {n : Nat} {w : World} {base base' : Nat} {v : Value} (h : OutG ty k C n w base v) (hb : base' ≤ base) : OutG ty k C n w base' v := by
  obtain ⟨news, S, h1, h2, h3, h4⟩ := h
  exact ⟨news, S, own_mono h1 hb, h2, fun i hi => ⟨Nat.le_trans hb (h3 i hi).1, (h3 i hi).2⟩, h4⟩
/-- it stays, where its blocks do -/
theorem OutG.keep {ty k : Nat} {C : World → Nat → List Value → Prop} {n : Nat} {w w' : World} {base : Nat} {v : Value} (h : OutG ty k C n w base v) (hC : MonoC C) (hB : ∀ i, base ≤ i → i < w.heap.size → w'.heap[i]? = w.heap[i]?) (hs : w.heap.size ≤ w'.heap.size) : OutG ty k C n w' base v := by
  obtain ⟨news, S, h1, h2, h3, h4⟩ := h
  refine ⟨news, S, own_keep h1 fun g _ hl hg => hB g hg hl, hC _ _ _ _ _ h2 (Le.cut2 fun b hb => ⟨hb, fun o u hu => ?_⟩) hs, fun i hi => ⟨(h3 i hi).1, Nat.lt_of_lt_of_le (h3 i hi).2 hs⟩, h4⟩
  have := hB b (h3 b hb).1 (h3 b hb).2
  simp only [World.cell?] at hu ⊢
  rw [this]; exact hu
theorem OutG.ch {ty k : Nat} {C : World → Nat → List Value → Prop} {n : Nat} {w w' : World} {base g : Nat} {v : Value} (h : OutG ty k C n w base v) (hC : MonoC C) (hg : g < base) (hB : Ch g Option.none w w') : OutG ty k C n w' base v :=
  h.keep hC (fun i hi hl => hB.block i hl (by omega) (by simp)) hB.size
theorem OutG.nil (ty k : Nat) (C : World → Nat → List Value → Prop) (w : World) (base : Nat) (hC : C (cut (fun _ => false) w) w.heap.size []) : OutG ty k C 0 w base (.slice none 0 0) :=
  ⟨[], fun _ => false, World.ownsRow_nil _ _ _ _, hC, (fun _ h => (by cases h)), fun _ _ => rfl⟩
/-- behind an append of one more -/
theorem OutG.snoc {ty k : Nat} {C D C' : World → Nat → List Value → Prop} {n : Nat} {w w' : World} {base : Nat} {v v' : Value} {news xs : List Value} {S T : Nat → Bool}
    (h1 : w'.ownsRow base ty k v' (n + 1) (xs ++ news)) (hgr : w.grownBy w' v.ownBlock) (hat : v'.ownBlock = v.ownBlock ∨ v'.ownBlock = some w.heap.size)
    (h2 : C (cut S w) w.heap.size xs) (h3 : ∀ i, S i = true → base ≤ i ∧ i < w.heap.size) (h4 : ∀ g, v.ownBlock = some g → S g = false)
    (k2 : D (cut T w) w.heap.size news) (k3 : ∀ i, T i = true → base ≤ i ∧ i < w.heap.size) (k4 : ∀ g, v.ownBlock = some g → T g = false)
    (hC : MonoC C) (hD : MonoC D) (hCD : ∀ v N xs news, C v N xs → D v N news → C' v N (xs ++ news)) : OutG ty k C' (n + 1) w' base v' := by
  have hor : ∀ i, (S i || T i) = true → S i = true ∨ T i = true := fun i h => by simpa using h
  have hbl : ∀ i, (base ≤ i ∧ i < w.heap.size) → (∀ g, v.ownBlock = some g → i ≠ g) → ∀ o u, w.cell? ⟨i, o, none⟩ = some u → w'.cell? ⟨i, o, none⟩ = some u := fun i hi hn o u hu => by
    have := hgr.block i hi.2 (fun e => hn i e.symm rfl)
    simp only [World.cell?] at hu ⊢
    rw [this]; exact hu
  refine ⟨xs ++ news, fun i => S i || T i, h1, hCD _ _ _ _ (hC _ _ _ _ _ h2 (Le.cut2 fun b hb => ⟨by simp [hb], hbl b (h3 b hb) fun g hg e => by subst e; rw [h4 b hg] at hb; cases hb⟩) hgr.size) (hD _ _ _ _ _ k2 (Le.cut2 fun b hb => ⟨by simp [hb], hbl b (k3 b hb) fun g hg e => by subst e; rw [k4 b hg] at hb; cases hb⟩) hgr.size), fun i hi => ?_, fun g hg => ?_⟩
  · rcases hor i hi with h | h
    · exact ⟨(h3 i h).1, Nat.lt_of_lt_of_le (h3 i h).2 hgr.size⟩
    · exact ⟨(k3 i h).1, Nat.lt_of_lt_of_le (k3 i h).2 hgr.size⟩
  · rcases hat with e | e
    · rw [e] at hg; simp [h4 g hg, k4 g hg]
    · rw [e] at hg
      obtain rfl : w.heap.size = g := by injection hg
      have hS : S w.heap.size = false := by
        cases hs : S w.heap.size with
        | false => rfl
        | true => exact absurd (h3 _ hs).2 (Nat.lt_irrefl _)
      have hT : T w.heap.size = false := by
        cases hs : T w.heap.size with
        | false => rfl
        | true => exact absurd (k3 _ hs).2 (Nat.lt_irrefl _)
      simp [hS, hT]
theorem mono_lf (l : Lf) : MonoC fun v N news => l.Cells v N news := fun _ _ _ _ _ h hl hm => Lf.Cells.le hl hm l _ h
theorem mono_ls (l : Ls) : MonoC fun v N news => l.Cells v N news := fun _ _ _ _ _ h hl hm => Ls.Cells.le hl hm l _ h
/-- a list of nodes that the call has made -/
def OutL (w : World) (base : Nat) (v : Value) (l : Lf) : Prop := OutG 47 4 (fun u N news => l.Cells u N news) l.len w base v
/-- a list of lists that the call has made -/
def OutLs (w : World) (base : Nat) (v : Value) (l : Ls) : Prop := OutG 23 1 (fun u N news => l.Cells u N news) l.len w base v
/-- what the call has made lies there, in blocks of its own alone -/
theorem OutL.in {w : World} {base : Nat} {v : Value} {l : Lf} (h : OutL w base v l) (hl : l.len ≤ 140737488355328) : ∃ (p : Option Addr) (c : Nat) (T : Nat → Bool), v = .slice p l.len c ∧ l.In (cut T w) w.heap.size p ∧ ∀ i, T i = true → base ≤ i ∧ i < w.heap.size := by
  obtain ⟨news, S, h1, h2, h3, h4⟩ := h
  rcases h1 with ⟨_, ⟨rfl, h0⟩ | ⟨g, cap, cur, rfl, hg, hk, hnc, hm, hs, ht⟩⟩
  · exact ⟨none, 0, fun _ => false, by rw [h0], ⟨by omega, .inl h0⟩, fun _ h => by cases h⟩
  · have hlt : g < w.heap.size := (Array.getElem?_eq_some_iff.1 hk).1
    refine ⟨_, cap, fun i => S i || i == g, rfl, ⟨hl, .inr ⟨g, 0, rfl, hlt, Lf.At.ofCells (Le.cut2 fun b hb => ⟨by simp [hb], fun o v hv => hv⟩) (Nat.le_refl _) l news 0 h2 fun j u hu => ?_⟩⟩, fun i hi => ?_⟩
    · rw [cell_cut, if_pos (by simp), Nat.zero_add]
      rw [← ht, List.getElem?_take] at hu
      split at hu
      · simp only [World.cell?, hk]; rw [← Array.getElem?_toList] at *; simpa using hu
      · cases hu
    · have : S i = true ∨ i = g := by simpa using hi
      rcases this with h | rfl
      · exact h3 i h
      · exact ⟨hg, hlt⟩
end Go.Proofs.Ytcadeeldogknmaa
/- Taking an operation of a drawn region: its number and its value, the rest found. -/
namespace Go.Proofs.Ytcadeeldogknmaa
open Go.RowKit

section
variable {P : Program} {md : Region.Mode} {ops : Array Oper} {Q : Exit → Act → World → Prop} {S : World → Prop}
theorem tk (i : Nat) (v : Value) {oi : Oper} {fuel : Nat} {listed : Array Bool} {a : Act} {w : World} (hi : ops.toList[i]? = some oi)
    (hy : YieldsIf P ops S oi v a) (h : wpAnyH P md ops Q S fuel (listed.setIfInBounds i true) (a.put oi.dst v) w)
    (hs : Region.noSelect ops = true := by kernel_rfl) (hf : Region.free md ops listed i = true := by kernel_rfl) (hr : (Region.ready md ops listed).contains i = true := by kernel_rfl)
    (hQ : ∀ c a w, Q (.panic c) (a.put oi.dst v) w → Q (.panic c) a w := by exact fun _ _ _ h => h) (hS : S w := by assumption) : wpAnyH P md ops Q S (fuel + 1) listed a w :=
  wpAnyH_take (Array.getElem?_toList.symm.trans hi) hs hf hr hQ hy hS h
theorem rdy {fuel : Nat} {listed : Array Bool} {a : Act} {w : World} {i : Nat} {o : Oper} {rs : List Nat} (ho : ops.toList[i]? = some o)
    (h : ∀ K' : Act → World → Prop, Shut (∀ a w, S w → (S w → wpAnyH P md ops Q S fuel (listed.setIfInBounds i true) a w) → K' a w) → if Region.wanted o (yielded ops a.tmps) = true then Oper.wp P o a w K' Q else K' (a.put o.dst undef) w)
    (hs : AllReadyH P md ops Q S fuel listed a w rs) : AllReadyH P md ops Q S fuel listed a w (i :: rs) :=
  AllReadyH.cons (Array.getElem?_toList.symm.trans ho) h hs
end
end Go.Proofs.Ytcadeeldogknmaa
