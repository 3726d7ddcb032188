/- PB, PC as one. -/
import Derived.Test.YtnghehcjklkoeaaM1
import Derived.Test.YtnghehcjklkoeaaF1
/- What lies in some blocks alone; what holds where texts were spoilt. -/
namespace Go.Proofs.Ytnghehcjklkoeaa
open Go.RowKit

/-- of the memory some blocks alone -/
def cut (S : Nat → Bool) (w : World) : World := { w with heap := w.heap.mapIdx fun i o => if S i then o else .cells #[] 0 (0, 0) }
theorem cell_cut (S : Nat → Bool) (w : World) (b o : Nat) : (cut S w).cell? ⟨b, o, none⟩ = if S b then w.cell? ⟨b, o, none⟩ else none := by
  simp only [World.cell?, cut, Array.getElem?_mapIdx]
  cases w.heap[b]? with
  | none => cases S b <;> rfl
  | some x => cases S b <;> simp
theorem cell_cut_some {S : Nat → Bool} {w : World} {b o : Nat} {v : Value} (h : (cut S w).cell? ⟨b, o, none⟩ = some v) : S b = true ∧ w.cell? ⟨b, o, none⟩ = some v := by
  rw [cell_cut] at h
  cases hs : S b with
  | false => rw [hs] at h; cases h
  | true => rw [hs] at h; exact ⟨rfl, h⟩
/-- each cell of the one is the other's -/
def Le (w w' : World) : Prop := ∀ b o v, w.cell? ⟨b, o, none⟩ = some v → w'.cell? ⟨b, o, none⟩ = some v
theorem Le.refl (w : World) : Le w w := fun _ _ _ h => h
theorem Le.cut (S : Nat → Bool) (w : World) : Le (cut S w) w := fun _ _ _ h => (cell_cut_some h).2
theorem Le.cut2 {S T : Nat → Bool} {w w' : World} (h : ∀ b, S b = true → T b = true ∧ ∀ o v, w.cell? ⟨b, o, none⟩ = some v → w'.cell? ⟨b, o, none⟩ = some v) : Le (Ytnghehcjklkoeaa.cut S w) (Ytnghehcjklkoeaa.cut T w') := fun b o v hv => by
  obtain ⟨h1, h2⟩ := cell_cut_some hv
  rw [cell_cut, (h b h1).1]; exact (h b h1).2 o v h2
mutual
theorem Ex.At.le {w w' : World} {N M : Nat} (hw : Le w w') (hM : N ≤ M) : ∀ (x : Ex) (b o : Nat), Ex.At w N x b o → Ex.At w' M x b o
  | .mk op x nm as', b, o, h => by
    obtain ⟨⟨h0, h1, h2, h3⟩, ⟨p, c, h4, s4⟩⟩ := h
    exact ⟨⟨hw _ _ _ h0, hw _ _ _ h1, hw _ _ _ h2, h3⟩, ⟨p, c, hw _ _ _ h4, s4.imp hM fun b' o' _ ha => Exs.At.le hw hM as' b' o' ha⟩⟩
theorem Exs.At.le {w w' : World} {N M : Nat} (hw : Le w w') (hM : N ≤ M) : ∀ (l : Exs) (b o : Nat), Exs.At w N l b o → Exs.At w' M l b o
  | .nil, _, _, _ => trivial
  | .cons x r, b, o, h => ⟨Ex.At.le hw hM x b o h.1, Exs.At.le hw hM r b (o + 4) h.2⟩
end
theorem Exs.In.le {w w' : World} {N M : Nat} {l : Exs} {p : Option Addr} (h : l.In w N p) (hw : Le w w') (hM : N ≤ M) : l.In w' M p := Sl.imp h hM fun b o _ ha => Exs.At.le hw hM l b o ha
theorem Ex.Ok.le {w w' : World} {N M : Nat} {x : Ex} {p : Option Addr} (h : x.Ok w N p) (hw : Le w w') (hM : N ≤ M) : x.Ok w' M p := ⟨h.1.le hw hM, h.2⟩
theorem StrAt.le {w w' : World} (hw : Le w w') (x : List UInt8) (b o : Nat) (h : StrAt w x b o) : StrAt w' x b o := hw _ _ _ h
theorem Vr.At.le {w w' : World} (hw : Le w w') (x : Vr) (b o : Nat) (h : x.At w b o) : x.At w' b o := ⟨hw _ _ _ h.1, hw _ _ _ h.2.1, hw _ _ _ h.2.2.1, hw _ _ _ h.2.2.2⟩
theorem Rgn.At.le {w w' : World} (hw : Le w w') (x : Rgn) (b o : Nat) (h : x.At w b o) : x.At w' b o := ⟨hw _ _ _ h.1, hw _ _ _ h.2.1, hw _ _ _ h.2.2.1, hw _ _ _ h.2.2.2⟩
mutual
theorem St.At.le {w w' : World} {N M : Nat} (hw : Le w w') (hM : N ≤ M) : ∀ (x : St) (b o : Nat), St.At w N x b o → St.At w' M x b o
  | .mk kd nm ns e a as' lo hi bd el, b, o, h => by
    obtain ⟨⟨h0, h1, h2, h3, h4, h5⟩, ⟨p1, c1, g1, s1⟩, he, ha, ⟨p2, c2, g2, s2⟩, ⟨p3, c3, g3, s3⟩, ⟨p4, c4, g4, s4⟩⟩ := h
    exact ⟨⟨hw _ _ _ h0, hw _ _ _ h1, hw _ _ _ h2, hw _ _ _ h3, h4, h5⟩,
      ⟨p1, c1, hw _ _ _ g1, s1.1, s1.2.imp hM fun x b o _ => StrAt.le hw x b o⟩, Ex.At.le hw hM e b _ he, Ex.At.le hw hM a b _ ha,
      ⟨p2, c2, hw _ _ _ g2, s2.le hw hM⟩,
      ⟨p3, c3, hw _ _ _ g3, s3.imp hM fun b' o' _ ha' => Sts.At.le hw hM bd b' o' ha'⟩,
      ⟨p4, c4, hw _ _ _ g4, s4.imp hM fun b' o' _ ha' => Sts.At.le hw hM el b' o' ha'⟩⟩
theorem Sts.At.le {w w' : World} {N M : Nat} (hw : Le w w') (hM : N ≤ M) : ∀ (l : Sts) (b o : Nat), Sts.At w N l b o → Sts.At w' M l b o
  | .nil, _, _, _ => trivial
  | .cons x r, b, o, h => ⟨St.At.le hw hM x b o h.1, Sts.At.le hw hM r b (o + 16) h.2⟩
end
theorem Sts.In.le {w w' : World} {N M : Nat} {l : Sts} {p : Option Addr} (h : l.In w N p) (hw : Le w w') (hM : N ≤ M) : l.In w' M p := Sl.imp h hM fun b o _ ha => Sts.At.le hw hM l b o ha
theorem Fnc.At.le {w w' : World} {N M : Nat} (hw : Le w w') (hM : N ≤ M) (x : Fnc) (b o : Nat) (h : x.At w N b o) : x.At w' M b o := by
  obtain ⟨h0, ⟨p1, c1, g1, s1⟩, ⟨p2, c2, g2, s2⟩, ⟨p3, c3, g3, s3⟩, ⟨p4, c4, g4, s4⟩⟩ := h
  exact ⟨hw _ _ _ h0, ⟨p1, c1, hw _ _ _ g1, s1.imp hM fun x b o _ => Vr.At.le hw x b o⟩, ⟨p2, c2, hw _ _ _ g2, s2.imp hM fun x b o _ => Vr.At.le hw x b o⟩, ⟨p3, c3, hw _ _ _ g3, s3.1, s3.2.imp hM fun x b o _ => StrAt.le hw x b o⟩, ⟨p4, c4, hw _ _ _ g4, s4.le hw hM⟩⟩
/-- no cell but a text's is another, and a text's is a text's -/
def Spo (w w' : World) : Prop := ∀ b o v, w.cell? ⟨b, o, none⟩ = some v → w'.cell? ⟨b, o, none⟩ = some v ∨ ∃ s t : List UInt8, v = .string (str s) ∧ w'.cell? ⟨b, o, none⟩ = some (.string (str t))
theorem Spo.int {w w' : World} (h : Spo w w') {b o : Nat} {k : IntKind} {z : Int} (hv : w.cell? ⟨b, o, none⟩ = some (.int k z)) : w'.cell? ⟨b, o, none⟩ = some (.int k z) := by
  rcases h _ _ _ hv with h | ⟨_, _, h, _⟩
  · exact h
  · cases h
theorem Spo.sl {w w' : World} (h : Spo w w') {b o n c : Nat} {p : Option Addr} (hv : w.cell? ⟨b, o, none⟩ = some (.slice p n c)) : w'.cell? ⟨b, o, none⟩ = some (.slice p n c) := by
  rcases h _ _ _ hv with h | ⟨_, _, h, _⟩
  · exact h
  · cases h
theorem Spo.bool {w w' : World} (h : Spo w w') {b o : Nat} {t : Bool} (hv : w.cell? ⟨b, o, none⟩ = some (.bool t)) : w'.cell? ⟨b, o, none⟩ = some (.bool t) := by
  rcases h _ _ _ hv with h | ⟨_, _, h, _⟩
  · exact h
  · cases h
theorem Spo.str {w w' : World} (h : Spo w w') {b o : Nat} {s : List UInt8} (hv : w.cell? ⟨b, o, none⟩ = some (.string (Ytnghehcjklkoeaa.str s))) : ∃ t : List UInt8, w'.cell? ⟨b, o, none⟩ = some (.string (Ytnghehcjklkoeaa.str t)) := by
  rcases h _ _ _ hv with h | ⟨_, t, _, h⟩
  · exact ⟨s, h⟩
  · exact ⟨t, h⟩
theorem Spo.refl (w : World) : Spo w w := fun _ _ _ h => .inl h
theorem Spo.trans {a b c : World} (h : Spo a b) (h' : Spo b c) : Spo a c := fun q o v hv => by
  rcases h _ _ _ hv with h1 | ⟨s, t, rfl, h1⟩
  · exact h' _ _ _ h1
  · obtain ⟨t', h2⟩ := h'.str h1
    exact .inr ⟨s, t', rfl, h2⟩
theorem Spo.cut {w w' : World} (S : Nat → Bool) (h : Spo w w') : Spo (Ytnghehcjklkoeaa.cut S w) (Ytnghehcjklkoeaa.cut S w') := fun b o v hv => by
  obtain ⟨h1, h2⟩ := cell_cut_some hv
  rw [cell_cut, if_pos h1]; exact h _ _ _ h2
theorem Spo.of_le {w w' : World} (h : Le w w') : Spo w w' := fun b o v hv => .inl (h b o v hv)
theorem Sl.ex {α : Type} {N : Nat} {p : Option Addr} {n : Nat} {A : Nat → Nat → Prop} {B : α → Nat → Nat → Prop} {P : α → Prop} (h : Sl N p n A) (d : α) (hd : n = 0 → P d ∧ ∀ b o, B d b o) (hAB : ∀ b o, A b o → ∃ y, P y ∧ B y b o) : ∃ y, P y ∧ Sl N p n (B y) := by
  rcases h with ⟨hm, h0 | ⟨b, o, hp, hb, ha⟩⟩
  · exact ⟨d, (hd h0).1, hm, .inl h0⟩
  · obtain ⟨y, hy, hB⟩ := hAB b o ha
    exact ⟨y, hy, hm, .inr ⟨b, o, hp, hb, hB⟩⟩
mutual
theorem Ex.At.spo {w w' : World} {N : Nat} (hw : Spo w w') : ∀ (x : Ex) (b o : Nat), Ex.At w N x b o → ∃ y : Ex, (y.size = x.size ∧ y.args.len = x.args.len) ∧ Ex.At w' N y b o
  | .mk op x nm as', b, o, h => by
    obtain ⟨⟨h0, h1, h2, h3⟩, ⟨p, c, h4, s4⟩⟩ := h
    obtain ⟨t, ht⟩ := hw.str h2
    obtain ⟨y, ⟨hy1, hy2⟩, hs⟩ : ∃ y : Exs, (y.size = as'.size ∧ y.len = as'.len) ∧ Sl N p as'.len (Exs.At w' N y) := by
      rcases s4 with ⟨hm, h0' | ⟨b', o', hp, hb, ha⟩⟩
      · exact ⟨as', ⟨rfl, rfl⟩, hm, .inl h0'⟩
      · obtain ⟨y, hy, hB⟩ := Exs.At.spo hw as' b' o' ha
        exact ⟨y, hy, hm, .inr ⟨b', o', hp, hb, hB⟩⟩
    exact ⟨.mk op x t y, ⟨by simp only [Ex.size, hy1], hy2⟩, ⟨hw.int h0, hw.int h1, ht, h3⟩, ⟨p, c, by rw [hy2]; exact hw.sl h4, by rw [hy2]; exact hs⟩⟩
theorem Exs.At.spo {w w' : World} {N : Nat} (hw : Spo w w') : ∀ (l : Exs) (b o : Nat), Exs.At w N l b o → ∃ y : Exs, (y.size = l.size ∧ y.len = l.len) ∧ Exs.At w' N y b o
  | .nil, _, _, _ => ⟨.nil, ⟨rfl, rfl⟩, trivial⟩
  | .cons x r, b, o, h => by
    obtain ⟨y, ⟨h1, _⟩, h2⟩ := Ex.At.spo hw x b o h.1
    obtain ⟨z, ⟨h3, h4⟩, h5⟩ := Exs.At.spo hw r b (o + 4) h.2
    exact ⟨.cons y z, ⟨by simp only [Exs.size, h1, h3], by simp only [Exs.len, h4]⟩, h2, h5⟩
end
theorem Exs.In.spo {w w' : World} {N : Nat} {l : Exs} {p : Option Addr} (h : l.In w N p) (hw : Spo w w') : ∃ y : Exs, (y.size = l.size ∧ y.len = l.len) ∧ y.In w' N p := by
  rcases h with ⟨hm, h0 | ⟨b, o, hp, hb, ha⟩⟩
  · exact ⟨l, ⟨rfl, rfl⟩, hm, .inl h0⟩
  · obtain ⟨y, hy, hB⟩ := Exs.At.spo hw l b o ha
    exact ⟨y, hy, by rw [hy.2]; exact hm, .inr ⟨b, o, hp, hb, hB⟩⟩
theorem Row.spo {α : Type} {A B : α → Nat → Nat → Prop} {k b : Nat} (h : ∀ x o, A x b o → ∃ y, B y b o) : ∀ (l : List α) (o : Nat), Row A k l b o → ∃ m : List α, m.length = l.length ∧ Row B k m b o
  | [], _, _ => ⟨[], rfl, trivial⟩
  | x :: r, o, H => by
    obtain ⟨y, hy⟩ := h x o H.1
    obtain ⟨m, hm, hr⟩ := Row.spo h r (o + k) H.2
    exact ⟨y :: m, by simp [hm], hy, hr⟩
theorem RowIn.spo {α : Type} {N : Nat} {A B : α → Nat → Nat → Prop} {k : Nat} {l : List α} {p : Option Addr} (H : RowIn N A k l p) (h : ∀ x b o, A x b o → ∃ y, B y b o) : ∃ m : List α, m.length = l.length ∧ RowIn N B k m p := by
  rcases H with ⟨hm, h0 | ⟨b, o, hp, hb, ha⟩⟩
  · exact ⟨l, rfl, hm, .inl h0⟩
  · obtain ⟨m, h1, h2⟩ := Row.spo (fun x o => h x b o) l o ha
    exact ⟨m, h1, by rw [h1]; exact hm, .inr ⟨b, o, hp, hb, h2⟩⟩
theorem StrAt.spo {w w' : World} (hw : Spo w w') (x : List UInt8) (b o : Nat) (h : StrAt w x b o) : ∃ y, StrAt w' y b o := hw.str h
theorem Vr.At.spo {w w' : World} (hw : Spo w w') (x : Vr) (b o : Nat) (h : x.At w b o) : ∃ y : Vr, y.At w' b o := by
  obtain ⟨t, ht⟩ := hw.str h.1
  exact ⟨⟨t, x.kind, x.size, x.secret⟩, ht, hw.int h.2.1, hw.int h.2.2.1, hw.bool h.2.2.2⟩
theorem Rgn.At.spo {w w' : World} (hw : Spo w w') (x : Rgn) (b o : Nat) (h : x.At w b o) : ∃ y : Rgn, y.At w' b o := by
  obtain ⟨t, ht⟩ := hw.str h.1
  exact ⟨⟨t, x.addr, x.size, x.secret⟩, ht, hw.int h.2.1, hw.int h.2.2.1, hw.bool h.2.2.2⟩
mutual
theorem St.At.spo {w w' : World} {N : Nat} (hw : Spo w w') : ∀ (x : St) (b o : Nat), St.At w N x b o → ∃ y : St, y.size = x.size ∧ St.At w' N y b o
  | .mk kd nm ns e a as' lo hi bd el, b, o, h => by
    obtain ⟨⟨h0, h1, h2, h3, h4, h5⟩, ⟨p1, c1, g1, s1⟩, he, ha, ⟨p2, c2, g2, s2⟩, ⟨p3, c3, g3, s3⟩, ⟨p4, c4, g4, s4⟩⟩ := h
    obtain ⟨nm', hnm⟩ := hw.str h1
    obtain ⟨ns', hn1, hn2⟩ := s1.2.spo (B := StrAt w') fun x b o => StrAt.spo hw x b o
    obtain ⟨e', _, he'⟩ := Ex.At.spo hw e b _ he
    obtain ⟨a', _, ha'⟩ := Ex.At.spo hw a b _ ha
    obtain ⟨g', ⟨_, hg1⟩, hg2⟩ := s2.spo hw
    obtain ⟨bd', ⟨hb1, hb2⟩, hb3⟩ : ∃ y : Sts, (y.size = bd.size ∧ y.len = bd.len) ∧ Sl N p3 bd.len (Sts.At w' N y) := by
      rcases s3 with ⟨hm, h0' | ⟨b', o', hp, hb, hA⟩⟩
      · exact ⟨bd, ⟨rfl, rfl⟩, hm, .inl h0'⟩
      · obtain ⟨y, hy, hB⟩ := Sts.At.spo hw bd b' o' hA
        exact ⟨y, hy, hm, .inr ⟨b', o', hp, hb, hB⟩⟩
    obtain ⟨el', ⟨hl1, hl2⟩, hl3⟩ : ∃ y : Sts, (y.size = el.size ∧ y.len = el.len) ∧ Sl N p4 el.len (Sts.At w' N y) := by
      rcases s4 with ⟨hm, h0' | ⟨b', o', hp, hb, hA⟩⟩
      · exact ⟨el, ⟨rfl, rfl⟩, hm, .inl h0'⟩
      · obtain ⟨y, hy, hB⟩ := Sts.At.spo hw el b' o' hA
        exact ⟨y, hy, hm, .inr ⟨b', o', hp, hb, hB⟩⟩
    exact ⟨.mk kd nm' ns' e' a' g' lo hi bd' el', by simp only [St.size, hb1, hl1], ⟨hw.int h0, hnm, hw.int h2, hw.int h3, h4, h5⟩, ⟨p1, c1, by rw [hn1]; exact hw.sl g1, by rw [hn1]; exact s1.1, hn2⟩, he', ha', ⟨p2, c2, by rw [hg1]; exact hw.sl g2, hg2⟩, ⟨p3, c3, by rw [hb2]; exact hw.sl g3, by rw [hb2]; exact hb3⟩, ⟨p4, c4, by rw [hl2]; exact hw.sl g4, by rw [hl2]; exact hl3⟩⟩
theorem Sts.At.spo {w w' : World} {N : Nat} (hw : Spo w w') : ∀ (l : Sts) (b o : Nat), Sts.At w N l b o → ∃ y : Sts, (y.size = l.size ∧ y.len = l.len) ∧ Sts.At w' N y b o
  | .nil, _, _, _ => ⟨.nil, ⟨rfl, rfl⟩, trivial⟩
  | .cons x r, b, o, h => by
    obtain ⟨y, h1, h2⟩ := St.At.spo hw x b o h.1
    obtain ⟨z, ⟨h3, h4⟩, h5⟩ := Sts.At.spo hw r b (o + 16) h.2
    exact ⟨.cons y z, ⟨by simp only [Sts.size, h1, h3], by simp only [Sts.len, h4]⟩, h2, h5⟩
end
end Go.Proofs.Ytnghehcjklkoeaa
/- Texts are spoilt in some blocks alone: expressions. -/
namespace Go.Proofs.Ytnghehcjklkoeaa
open Go.RowKit

/-- behind it all is as it was but for texts in those blocks, and what is new -/
structure Spl (S : Nat → Bool) (w w' : World) : Prop where
  os : w'.os = w.os
  tape : w'.tape = w.tape
  output : w'.output = w.output
  size : w.heap.size ≤ w'.heap.size
  block : ∀ k, k < w.heap.size → S k = false → w'.heap[k]? = w.heap[k]?
  spo : Spo w w'
  fz : ∀ b o, b < w.heap.size → w'.frozen? ⟨b, o, none⟩ = w.frozen? ⟨b, o, none⟩
theorem Spl.refl (S : Nat → Bool) (w : World) : Spl S w w := ⟨rfl, rfl, rfl, Nat.le_refl _, fun _ _ _ => rfl, Spo.refl w, fun _ _ _ => rfl⟩
theorem Spl.trans {S : Nat → Bool} {a b c : World} (h : Spl S a b) (k : Spl S b c) : Spl S a c :=
  ⟨k.os.trans h.os, k.tape.trans h.tape, k.output.trans h.output, Nat.le_trans h.size k.size, fun i hi hs => (k.block i (Nat.lt_of_lt_of_le hi h.size) hs).trans (h.block i hi hs), h.spo.trans k.spo, fun i o hi => (k.fz i o (Nat.lt_of_lt_of_le hi h.size)).trans (h.fz i o hi)⟩
theorem Spl.drew {S : Nat → Bool} {a w : World} (h : Spl S a w) : Spl S a w.drew := ⟨h.os, h.tape, h.output, h.size, h.block, h.spo, h.fz⟩
theorem Spl.mono {S T : Nat → Bool} {a w : World} (h : Spl S a w) (hT : ∀ k, k < a.heap.size → T k = false → S k = false) : Spl T a w := ⟨h.os, h.tape, h.output, h.size, fun k hk hs => h.block k hk (hT k hk hs), h.spo, h.fz⟩
theorem Spl.put {S : Nat → Bool} {w : World} {b o : Nat} {s : List UInt8} (t : List UInt8) (hs : S b = true) (hv : w.cell? ⟨b, o, none⟩ = some (.string (str s))) : Spl S w (w.setCell ⟨b, o, none⟩ (.string (str t))) :=
  ⟨rfl, rfl, rfl, by simp [World.setCell], fun k _ hk => Below.heap_setCell _ _ _ _ (fun e => by rw [e] at hk; rw [hs] at hk; cases hk), fun b' o' v h => by
    by_cases he : (⟨b, o, none⟩ : Addr) = ⟨b', o', none⟩
    · cases he
      rw [hv] at h; cases h
      exact .inr ⟨s, t, rfl, World.cell?_setCell_same _ _ _ hv⟩
    · exact .inl ((World.cell?_setCell_other _ _ _ _ he).trans h), fun b' o' _ => World.frozen?_setCells b [.string (str t)] o w ⟨b', o', none⟩⟩
theorem Spl.alloc (S : Nat → Bool) (w : World) (A : Array Value) (t : TypeId) : Spl S w (w.alloc (.cells A t)) :=
  have H := (Below.refl w.heap.size w).alloc (Nat.le_refl _) (.cells A t)
  ⟨H.os, H.tape, H.output, H.size, fun k hk _ => H.block k hk, fun b o _v h => .inl ((H.cell (p := ⟨b, o, none⟩) (World.block_lt_of_cell? _ _ h)).trans h), fun _b _o hb => World.frozen?_alloc_past _ _ _ hb⟩
/-- those blocks lie below N and may be written -/
def Wr (S : Nat → Bool) (N : Nat) (w : World) : Prop := ∀ b, S b = true → b < N ∧ ∀ o, w.frozen? ⟨b, o, none⟩ = false
theorem Wr.spl {S : Nat → Bool} {w w' : World} {N : Nat} (h : Spl S w w') (hN : N ≤ w.heap.size) (hw : Wr S N w) : Wr S N w' := fun b hs =>
  ⟨(hw b hs).1, fun o => (h.fz b o (Nat.lt_of_lt_of_le (hw b hs).1 hN)).trans ((hw b hs).2 o)⟩

def SpE (n : Nat) : Prop := ∀ l : Exs, l.size < n → ∀ (p : Option Addr) (c N : Nat) (S : Nat → Bool) (w : World), l.In (cut S w) N p → N ≤ w.heap.size → Wr S N w →
    Calls Try.prog 49 #[.slice p l.len c] w fun z w' => z = .returned (.tuple #[]) ∧ Spl S w w'
set_option maxRecDepth 100000 in
set_option maxHeartbeats 3200000 in
theorem spe_step (n : Nat) (ih : SpE n) : SpE (n + 1) := by
  intro l hsz p c N S w h hN hF
  have IH := Lib.hid ih
  have HF := Lib.hid hF
  have HNN := Lib.hid (And.intro hN hsz)
  obtain ⟨hm, hs⟩ := h
  obtain ⟨b, o, hp, hb, ha⟩ : ∃ b o, (l.len = 0 ∨ p = some ⟨b, o, none⟩) ∧ (b < N ∨ l.len = 0) ∧ l.At (cut S w) N b o := by
    rcases hs with h0 | ⟨b, o, hp, hb, ha⟩
    · exact ⟨0, 0, .inl h0, .inr h0, by cases l with | nil => trivial | cons => simp [Exs.len] at h0⟩
    · exact ⟨b, o, .inr hp, .inl hb, ha⟩
  have HB := Lib.hid hb
  clear ih hF hN hsz hs hb
  go_enter Try.func49, Try.ntmps49
  go_wp2_with fail
  go_loopw [2] (fun i wr => ∃ (k : Nat) (r : Exs), i = .int .i64 k ∧ k + r.len = l.len ∧ Hid (r.size ≤ l.size ∧ r.At (cut S wr) N b (o + k * 4)) ∧ Hid (Spl S w wr)) (fun i _ => l.len - (intOf i).toNat)
  case atStart => exact ⟨0, l, rfl, by omega, Lib.hid ⟨Nat.le_refl _, by rw [Nat.zero_mul]; exact ha⟩, Lib.hid (Spl.refl S w)⟩
  case round =>
    obtain ⟨k, r, rfl, hk, hr, hX⟩ := hrel
    obtain ⟨wp, rfl⟩ : ∃ wp : World, wp = wr := ⟨_, rfl⟩
    cases r with
    | nil =>
      simp only [Exs.len] at hk
      have hge : ¬ k < l.len := by omega
      go_wp2_with fail
      go_end0
      exact ⟨rfl, hX.out⟩
    | cons y r =>
      simp only [Exs.len] at hk
      have hlt : k < l.len := by omega
      obtain ⟨hrs, hy, hr'⟩ := hr.out
      rcases hp with h0 | rfl
      · omega
      obtain ⟨q, d, e0, e1, e2, e3, hok⟩ := hy.open'
      obtain ⟨hSb, c3⟩ := cell_cut_some e3
      have hys : y.args.size < n := by
        have := HNN.out.2
        obtain ⟨op, wd, nm, ar⟩ := y
        simp only [Exs.size, Ex.size, Ex.args] at hrs ⊢
        omega
      have HC := Lib.hid (IH.out y.args hys q d N S wp hok.1 (Nat.le_trans HNN.out.1 hX.out.size) (Wr.spl hX.out HNN.out.1 HF.out))
      have HR := Lib.hid (show (Exs.cons y r).At (cut S wp) N b (o + k * 4) from ⟨hy, hr'⟩)
      clear hr hy hr' e0 e1 e2 e3 hok hys
      go_wp2_with fail
      refine HC.out.mono ?_
      rintro z w1 ⟨rfl, hX1⟩
      have HX1 := Lib.hid hX1
      obtain ⟨z', ⟨_, hz2⟩, hz3⟩ := Exs.At.spo (hX1.spo.cut S) _ _ _ HR.out
      cases z' with
      | nil => simp [Exs.len] at hz2
      | cons y' r' =>
        obtain ⟨q', d', _, _, e2, _, _⟩ := hz3.1.open'
        obtain ⟨_, c2⟩ := cell_cut_some e2
        have f2 : w1.frozen? ⟨b, o + k * 4 + 2, none⟩ = false := (Wr.spl (hX.out.trans hX1) HNN.out.1 HF.out b hSb).2 _
        obtain ⟨w2, hw2⟩ : ∃ w2, w2 = w1.setCell ⟨b, o + k * 4 + 2, none⟩ (.string (str [115, 112, 111, 105, 108, 116])) := ⟨_, rfl⟩
        have HX2 := Lib.hid (show Spl S w w2 from hw2 ▸ (hX.out.trans hX1).trans (Spl.put _ hSb c2))
        have HR2 := Lib.hid (show ∃ x : Exs, x.len = r.len ∧ x.size ≤ l.size ∧ x.At (cut S w2) N b (o + k * 4 + 4) from by
          obtain ⟨x, ⟨hx1, hx2⟩, hx3⟩ := Exs.At.spo ((hX1.trans (Spl.put (S := S) [115, 112, 111, 105, 108, 116] hSb c2)).spo.cut S) _ _ _ HR.out.2
          exact ⟨x, hx2, by rw [hx1]; simp only [Exs.size] at hrs; omega, by rw [hw2]; exact hx3⟩)
        clear hX1 hz2 hz3 e2 HR HC hrs
        go_wp2_with fail
        subst hw2
        obtain ⟨x, hx1, hx2, hx3⟩ := HR2.out
        go_roundw
        case rel => exact ⟨k + 1, x, by go_num, by omega, Lib.hid ⟨hx2, by rw [show o + (k + 1) * 4 = o + k * 4 + 4 by omega]; exact hx3⟩, HX2⟩
        case measure => simp [intOf]; omega
theorem spe_to : ∀ n, SpE n
  | 0 => fun _ h => absurd h (Nat.not_lt_zero _)
  | n + 1 => spe_step n (spe_to n)
end Go.Proofs.Ytnghehcjklkoeaa
