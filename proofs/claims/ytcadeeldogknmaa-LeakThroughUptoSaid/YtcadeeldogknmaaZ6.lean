/- Terms made ready, as they lie; picks. -/
import Derived.Test.YtcadeeldogknmaaR1
namespace Go.Proofs.Ytcadeeldogknmaa
open Go.RowKit

theorem Picks.le {w w' : World} (hw : Le w w') : ∀ (xs : List Pk) (b o : Nat), Picks w xs b o → Picks w' xs b o
  | [], _, _, _ => trivial
  | _ :: xs, b, o, h => ⟨⟨hw _ _ _ h.1.1, hw _ _ _ h.1.2.1, hw _ _ _ h.1.2.2.1, hw _ _ _ h.1.2.2.2⟩, Picks.le hw xs b (o + 4) h.2⟩
theorem Plines.le {w w' : World} {N M : Nat} (hw : Le w w') (hM : N ≤ M) : ∀ (xs : List (List Pk)) (b o : Nat), Plines w N xs b o → Plines w' M xs b o
  | [], _, _, _ => trivial
  | x :: xs, b, o, ⟨⟨p, c, h1, s1⟩, h2⟩ => ⟨⟨p, c, hw _ _ _ h1, s1.imp' hM fun b' o' ha => Picks.le hw x b' o' ha⟩, Plines.le hw hM xs b (o + 1) h2⟩
mutual
/-- terms made ready, as they lie -/
def Rc.At (w : World) (N : Nat) : Rc → Nat → Nat → Prop
  | .nil, _, _ => True
  | .node k t ls bl subs rest, b, o =>
    w.cell? ⟨b, o, none⟩ = some (.int .i64 k) ∧ w.cell? ⟨b, o + 1, none⟩ = some (.bool t) ∧
    (∃ p c, (w.cell? ⟨b, o + 2, none⟩ = some (.slice p ls.length c) ∧ w.cell? ⟨b, o + 3, none⟩ = some (.int .i64 (greatestL ls)) ∧ w.cell? ⟨b, o + 4, none⟩ = some (.int .i64 (linesW ls))) ∧ Sl N p ls.length (Plines w N ls)) ∧
    (∃ p c gi sz, (w.cell? ⟨b, o + 5, none⟩ = some (.slice p bl.length c) ∧ w.cell? ⟨b, o + 6, none⟩ = some (.int .i64 gi) ∧ w.cell? ⟨b, o + 7, none⟩ = some (.int .i64 sz)) ∧ (k = 7 → gi = greatestL bl ∧ sz = linesW bl) ∧ Sl N p bl.length (Plines w N bl)) ∧
    (∃ p c, w.cell? ⟨b, o + 8, none⟩ = some (.slice p subs.len c) ∧ Sl N p subs.len (Rs.At w N subs)) ∧
    Rc.At w N rest b (o + 9)
def Rs.At (w : World) (N : Nat) : Rs → Nat → Nat → Prop
  | .nil, _, _ => True
  | .sub l rest, b, o =>
    (∃ p c, w.cell? ⟨b, o, none⟩ = some (.slice p l.len c) ∧ Sl N p l.len (Rc.At w N l)) ∧
    Rs.At w N rest b (o + 1)
end
mutual
theorem Rc.At.le {w w' : World} {N M : Nat} (hw : Le w w') (hM : N ≤ M) : ∀ (l : Rc) (b o : Nat), Rc.At w N l b o → Rc.At w' M l b o
  | .nil, _, _, _ => trivial
  | .node k t ls bl subs rest, b, o, h => by
    obtain ⟨h0, h1, ⟨p, c, ⟨h2, h3, h4⟩, s2⟩, ⟨p', c', gi, sz, ⟨h5, h6, h7⟩, e, s5⟩, ⟨q, d, h8, s8⟩, h9⟩ := h
    exact ⟨hw _ _ _ h0, hw _ _ _ h1, ⟨p, c, ⟨hw _ _ _ h2, hw _ _ _ h3, hw _ _ _ h4⟩, s2.imp' hM fun b o => Plines.le hw hM ls b o⟩, ⟨p', c', gi, sz, ⟨hw _ _ _ h5, hw _ _ _ h6, hw _ _ _ h7⟩, e, s5.imp' hM fun b o => Plines.le hw hM bl b o⟩, ⟨q, d, hw _ _ _ h8, s8.imp' hM fun b' o' ha => Rs.At.le hw hM subs b' o' ha⟩, Rc.At.le hw hM rest b (o + 9) h9⟩
theorem Rs.At.le {w w' : World} {N M : Nat} (hw : Le w w') (hM : N ≤ M) : ∀ (l : Rs) (b o : Nat), Rs.At w N l b o → Rs.At w' M l b o
  | .nil, _, _, _ => trivial
  | .sub l rest, b, o, h => by
    obtain ⟨⟨p, c, h1, s1⟩, h4⟩ := h
    exact ⟨⟨p, c, hw _ _ _ h1, s1.imp' hM fun b' o' ha => Rc.At.le hw hM l b' o' ha⟩, Rs.At.le hw hM rest b (o + 1) h4⟩
end
def Rc.In (w : World) (N : Nat) (l : Rc) (p : Option Addr) : Prop := Sl N p l.len (Rc.At w N l)
def Rs.In (w : World) (N : Nat) (l : Rs) (p : Option Addr) : Prop := Sl N p l.len (Rs.At w N l)
theorem mono_rcin (l : Rc) (q : Option Addr) : MonoP fun v N => l.In v N q := fun _ _ _ _ h hl hm => Sl.imp' h hm fun b o ha => Rc.At.le hl hm l b o ha
theorem mono_rsin (l : Rs) (q : Option Addr) : MonoP fun v N => l.In v N q := fun _ _ _ _ h hl hm => Sl.imp' h hm fun b o ha => Rs.At.le hl hm l b o ha
theorem mono_plines (ls : List (List Pk)) (q : Option Addr) : MonoP fun v N => Sl N q ls.length (Plines v N ls) := fun _ _ _ _ h hl hm => Sl.imp' h hm fun b o ha => Plines.le hl hm ls b o ha
mutual
/-- they may be, and are not too much -/
def Rc.fine : Rc → Prop
  | .nil => True
  | .node k _ ls bl subs rest => (picksOk ls = true ∧ picksOk bl = true ∧ linesW ls ≤ 1048576 ∧ linesW bl ≤ 1048576 ∧ 1 ≤ k ∧ k ≤ 9 ∧ (k = 3 → subs.len = 2) ∧ (k = 4 ∨ k = 5 ∨ k = 7 ∨ k = 9 → subs.len = 1)) ∧ subs.fine ∧ rest.fine
def Rs.fine : Rs → Prop
  | .nil => True
  | .sub l rest => l.fine ∧ rest.fine
end
set_option maxHeartbeats 1600000 in
theorem asMany_any (n m : Nat) (br : Bool) (w : World) : Calls Try.prog 46 #[.int .i64 n, .int .i64 m, .bool br] w fun e w' => e = (if asMany n m br = true then .returned (.tuple #[]) else panicked 2) ∧ w = w' := by
  have MT := Lib.hid (must_true w)
  have MF := Lib.hid (must_false w)
  by_cases h1 : m = n
  · have e : asMany n m br = true := by simp [asMany, h1]
    have f1 : ((m : Int) == (n : Int)) = true := by simp [h1]
    rw [if_pos e]
    go_enter Try.func46, Try.ntmps46
    go_wp2_with fail
    refine MT.out.mono ?_
    rintro e w' ⟨rfl, rfl⟩
    go_wp2_with fail
    go_end0
    exact ⟨rfl, rfl⟩
  have f1 : ((m : Int) == (n : Int)) = false := by simp; omega
  by_cases h2 : br = true ∧ m < n
  · have e : asMany n m br = true := by simp [asMany, h2]
    obtain ⟨rfl, h2⟩ := h2
    rw [if_pos e]
    go_enter Try.func46, Try.ntmps46
    go_wp2_with fail
    refine MT.out.mono ?_
    rintro e w' ⟨rfl, rfl⟩
    go_wp2_with fail
    go_end0
    exact ⟨rfl, rfl⟩
  have e : ¬ asMany n m br = true := by simp [asMany, h1]; intro hb; by_cases hb2 : m < n; (· exact absurd ⟨hb, hb2⟩ h2); (· omega)
  rw [if_neg e]
  cases br with
  | false =>
    go_enter Try.func46, Try.ntmps46
    go_wp2_with fail
    refine MF.out.mono ?_
    rintro e w' ⟨rfl, rfl⟩
    exact ⟨rfl, rfl, rfl⟩
  | true =>
    have h3 : ¬ m < n := fun h => h2 ⟨rfl, h⟩
    go_enter Try.func46, Try.ntmps46
    go_wp2_with fail
    refine MF.out.mono ?_
    rintro e w' ⟨rfl, rfl⟩
    exact ⟨rfl, rfl, rfl⟩
theorem Ints.get {w : World} : ∀ (xs : List Int) (b o i : Nat), Ints w xs b o → i < xs.length → w.cell? ⟨b, o + i, none⟩ = some (.int .u64 (xs.getD i 0))
  | x :: xs, b, o, 0, h, _ => h.1
  | x :: xs, b, o, i + 1, h, hi => by
    have := Ints.get xs b (o + 1) i h.2 (by simpa using hi)
    rw [show o + (i + 1) = o + 1 + i by omega]; simpa using this
set_option maxHeartbeats 3200000 in
theorem picked_any (g mp m N : Nat) (st : Int) (is : List Int) (p : Option Addr) (c : Nat) (pk : Pk) (w : World) (hr : RwS w g st mp m) (hs : Sl N p is.length (Ints w is)) (hN : N ≤ w.heap.size) (hok : pk.ok = true) (hit : pk.kind = 1 ∨ pk.kind = 3 → pk.item < is.length) :
    Calls Try.prog 62 #[.pointer (some ⟨g, 0, none⟩), .agg #[.int .i64 pk.kind, .int .i64 pk.item, .int .u64 pk.word, .bool pk.stack], .slice p is.length c] w fun e w' => e = .returned (.int .u64 (picked st is pk)) ∧ Below w.heap.size w w' := by
  obtain ⟨kd, it, wd, sk⟩ := pk
  simp only [Pk.ok, Bool.and_eq_true, decide_eq_true_eq] at hok hit
  dsimp only
  obtain ⟨W0, hW0⟩ : ∃ W0, w.alloc (.cells #[.int .i64 kd, .int .i64 it, .int .u64 wd, .bool sk] 56 (0, 0)) = W0 := ⟨_, rfl⟩
  have hk := heap_alloc_new w (.cells #[.int .i64 kd, .int .i64 it, .int .u64 wd, .bool sk] 56 (0, 0))
  have hB : Below w.heap.size w W0 := by rw [← hW0]; exact (Below.refl _ w).alloc (Nat.le_refl _) _
  rw [hW0] at hk
  have k0 := cell_blk hk (j := 0) rfl
  have k1 := cell_blk hk (j := 1) rfl
  have k2 := cell_blk hk (j := 2) rfl
  have k3 := cell_blk hk (j := 3) rfl
  have r0 : W0.cell? ⟨g, 0, none⟩ = some (.int .u64 st) := (hB.cell hr.lt).trans hr.c0
  have HB := Lib.hid hB
  have hcase : kd = 1 ∨ kd = 3 ∨ kd = 4 ∨ kd = 2 := by omega
  have HI := Lib.hid (fun (hk : kd = 1 ∨ kd = 3) => show ∃ (b o i : Nat), p = some ⟨b, o, none⟩ ∧ it = (i : Int) ∧ i < is.length ∧ W0.cell? ⟨b, o + i, none⟩ = some (.int .u64 (is.getD i 0)) ∧ it.toNat = i from by
    have h1 := hit hk
    rcases hs.2 with h0 | ⟨b, o, hp, hb, ha⟩
    · omega
    · refine ⟨b, o, it.toNat, hp, by omega, by omega, ?_, rfl⟩
      exact (hB.cell (p := ⟨b, _, none⟩) (Nat.lt_of_lt_of_le hb hN)).trans (Ints.get is b o it.toNat ha (by omega)))
  have hm := hs.1
  clear hr hs hN hit hB hk
  rcases hcase with rfl | rfl | rfl | rfl
  · obtain ⟨b, o, i, rfl, rfl, hi, hc, he⟩ := HI.out (.inl rfl)
    have hv : picked st is ⟨1, i, wd, sk⟩ = is.getD i 0 := by simp [picked]
    rw [hv]
    generalize is.getD i 0 = x at hc ⊢
    clear he hv
    go_enter Try.func62, Try.ntmps62
    go_wp2_with fail
    go_ret
    exact ⟨rfl, HB.out⟩
  · obtain ⟨b, o, i, rfl, rfl, hi, hc, he⟩ := HI.out (.inr rfl)
    cases sk with
    | true =>
      have hv : picked st is ⟨3, i, wd, true⟩ = IntKind.u64.wrap (IntKind.u64.wrap (wd + IntKind.u64.wrap (8 * is.getD i 0)) + st) := by simp [picked]
      rw [hv]
      generalize is.getD i 0 = x at hc ⊢
      clear he hv
      go_enter Try.func62, Try.ntmps62
      go_wp2_with fail
      go_ret
      exact ⟨rfl, HB.out⟩
    | false =>
      have hv : picked st is ⟨3, i, wd, false⟩ = IntKind.u64.wrap (wd + IntKind.u64.wrap (8 * is.getD i 0)) := by simp [picked]
      rw [hv]
      generalize is.getD i 0 = x at hc ⊢
      clear he hv
      go_enter Try.func62, Try.ntmps62
      go_wp2_with fail
      go_ret
      exact ⟨rfl, HB.out⟩
  · cases sk with
    | true =>
      have hv : picked st is ⟨4, it, wd, true⟩ = IntKind.u64.wrap (wd + st) := by simp [picked]
      rw [hv]
      clear hv
      go_enter Try.func62, Try.ntmps62
      go_wp2_with fail
      go_ret
      exact ⟨rfl, HB.out⟩
    | false =>
      have hv : picked st is ⟨4, it, wd, false⟩ = wd := by simp [picked]
      rw [hv]
      clear hv
      go_enter Try.func62, Try.ntmps62
      go_wp2_with fail
      go_ret
      exact ⟨rfl, HB.out⟩
  · have hv : picked st is ⟨2, it, wd, sk⟩ = wd := by simp [picked]
    rw [hv]
    clear hv
    go_enter Try.func62, Try.ntmps62
    go_wp2_with fail
    go_ret
    exact ⟨rfl, HB.out⟩
end Go.Proofs.Ytcadeeldogknmaa
