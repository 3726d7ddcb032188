/- Bytes are passed. -/
import Derived.Test.YtgffiggnmklcoaaGreatDoorD4
import Derived.OneCell
import Derived.Outline
import Derived.Deep.LoopGhost
import Derived.BigFrame
namespace Go.Proofs.YtgffiggnmklcoaaGreatDoor
open Go.RowKit

/-- all but one block as it was -/
structure But (g : Nat) (w w' : World) : Prop where
  os : w'.os = w.os
  tape : w'.tape = w.tape
  output : w'.output = w.output
  size : w.heap.size ≤ w'.heap.size
  block : ∀ k, k < w.heap.size → k ≠ g → w'.heap[k]? = w.heap[k]?
theorem But.refl (g : Nat) (w : World) : But g w w := ⟨rfl, rfl, rfl, Nat.le_refl _, fun _ _ _ => rfl⟩
theorem But.trans {g : Nat} {a b c : World} (h : But g a b) (k : But g b c) : But g a c :=
  ⟨k.os.trans h.os, k.tape.trans h.tape, k.output.trans h.output, Nat.le_trans h.size k.size, fun i hi hn => (k.block i (Nat.lt_of_lt_of_le hi h.size) hn).trans (h.block i hi hn)⟩
theorem But.of_below {g : Nat} {w w' : World} (h : Below w.heap.size w w') : But g w w' := ⟨h.os, h.tape, h.output, h.size, fun k hk _ => h.block k hk⟩
theorem But.below {g B : Nat} {w w' : World} (h : But g w w') (hB : B ≤ g) (hs : B ≤ w.heap.size) : Below B w w' :=
  ⟨h.os, h.tape, h.output, h.size, fun k hk => h.block k (by omega) (by omega)⟩
theorem But.setCell {g : Nat} {a w : World} (h : But g a w) (o : Nat) (v : Value) : But g a (w.setCell ⟨g, o, none⟩ v) :=
  h.trans ⟨rfl, rfl, rfl, by simp [World.setCell], fun k _ hn => Below.heap_setCell _ _ _ _ hn⟩
theorem But.cell {g : Nat} {w w' : World} (h : But g w w') {p : Addr} (hp : p.block < w.heap.size) (hn : p.block ≠ g) : w'.cell? p = w.cell? p := World.cell?_of_block (w := w) (h.block p.block hp hn)
theorem But.frozen {g : Nat} {w w' : World} (h : But g w w') {p : Addr} (hp : p.block < w.heap.size) (hn : p.block ≠ g) : w'.frozen? p = w.frozen? p := World.frozen?_of_block (w := w) (h.block p.block hp hn)

/-- how many bytes stand together from a place on -/
def runLen (f : UInt8 → Bool) (l : List UInt8) : Nat := (l.takeWhile f).length

theorem run_snoc {f : UInt8 → Bool} {l : List UInt8} {k : Nat} (h : (l.take k).all f = true) (hk : k < l.length) (hc : f l[k] = true) : (l.take (k + 1)).all f = true := by
  rw [List.take_succ_eq_append_getElem hk, List.all_append, h]; simp [hc]
theorem run_at {f : UInt8 → Bool} {l : List UInt8} {k : Nat} (h : (l.take k).all f = true) (hk : k ≤ l.length) (hs : ∀ h : k < l.length, f l[k] = false) : runLen f l = k := by
  induction l generalizing k with
  | nil => simp at hk; subst hk; rfl
  | cons c r ih =>
    cases k with
    | zero =>
      have := hs (by simp)
      simp at this
      simp [runLen, this]
    | succ k =>
      simp only [List.take_succ_cons, List.all_cons, Bool.and_eq_true] at h
      have := ih h.2 (by simpa using hk) (fun h' => hs (Nat.succ_lt_succ h'))
      simp only [runLen, List.takeWhile_cons, h.1, if_true, List.length_cons] at this ⊢
      omega
theorem runLen_le (f : UInt8 → Bool) (l : List UInt8) : runLen f l ≤ l.length := by
  unfold runLen; exact (List.takeWhile_prefix f).length_le

set_option maxRecDepth 100000 in
set_option maxHeartbeats 3200000 in
theorem passWord_any (s : ByteArray) (a ba bt : Nat) (w : World) (hs : s.size ≤ 281474976710656) (ha : a ≤ s.size) (hA : w.heap[ba]? = some (.cells #[.int .i64 a] 3 (0, 0))) (hT : w.cell? ⟨bt, 0, none⟩ = some (.string s)) (hne : bt ≠ ba) :
    Calls Tryz.prog 50 #[.func (.func 41) #[] #[], .pointer (some ⟨ba, 0, none⟩), .pointer (some ⟨bt, 0, none⟩)] w fun e w' =>
      (e = .returned (.string (s.extract a (a + runLen isPart (s.data.toList.drop a)))) ∧ w'.heap[ba]? = some (.cells #[.int .i64 ((a + runLen isPart (s.data.toList.drop a) : Nat) : Int)] 3 (0, 0))) ∧ But ba w w' := by
  have c0 := cell_of_one hA
  have HT := Lib.hid (And.intro hT (World.block_lt_of_cell? w _ hT))
  have HA := Lib.hid hA
  have HNe := Lib.hid hne
  clear hA hT hne
  go_enter Tryz.func50, Tryz.ntmps50
  go_wp2_with fail
  clear c0
  go_loopg [7] (s.size - a) (fun g x wr => ∃ j : Nat, a + j + g = s.size ∧ Hid (((s.data.toList.drop a).take j).all isPart = true) ∧ Hid (wr.heap[ba]? = some (.cells #[.int .i64 ((a + j : Nat) : Int)] 3 (0, 0))) ∧ Hid (But ba w wr))
  case atStart => exact ⟨0, by omega, Lib.hid rfl, HA, Lib.hid (But.refl _ _)⟩
  case round =>
    obtain ⟨j, hj, hP, hA, hB⟩ := hrel
    have cA := cell_of_one hA.out
    have fA := free_of_one hA.out
    have cT := (hB.out.cell (p := ⟨bt, 0, none⟩) HT.out.2 HNe.out).trans HT.out.1
    have hlen : (s.data.toList.drop a).length = s.size - a := by rw [List.length_drop, ← size_len]
    obtain ⟨q, hq⟩ : ∃ q, q = a + j := ⟨_, rfl⟩
    rw [← hq] at cA hj
    by_cases hlt : q < s.size
    · have hjl : j < (s.data.toList.drop a).length := by omega
      have hg : (s.data.toList.drop a)[j] = s[q]'hlt := by subst hq; rw [List.getElem_drop]; rfl
      have HC := Lib.hid (fun w => part_any (s[q]'hlt) w)
      cases hc : isPart (s[q]'hlt)
      · have HF := Lib.hid (run_at hP.out (by omega) (fun _ => by rw [hg]; exact hc))
        have HF2 := Lib.hid (show ((q : Nat) : Int) = ((a + runLen isPart (s.data.toList.drop a) : Nat) : Int) ∧ q = a + runLen isPart (s.data.toList.drop a) by rw [HF.out, hq]; exact ⟨rfl, rfl⟩)
        have HQ := Lib.hid hq
        have haq : a ≤ q := by omega
        have hqs : q ≤ s.size := by omega
        rw [hc] at HC
        clear hc hlen hjl hg hq hj
        go_wp2_with fail
        refine (HC.out _).mono ?_
        rintro e w' ⟨rfl, rfl⟩
        go_wp2_with fail
        go_ret
        exact ⟨⟨by rw [← HF2.out.2]; rfl, by rw [← HF2.out.1, HQ.out]; exact hA.out⟩, hB.out⟩
      · have HS := Lib.hid (run_snoc hP.out hjl (by rw [hg]; exact hc))
        have HQ := Lib.hid hq
        have HJ := Lib.hid hj
        rw [hc] at HC
        clear hc hlen hjl hg hq hj
        go_wp2_with fail
        refine (HC.out _).mono ?_
        rintro e w' ⟨rfl, rfl⟩
        go_wp2_with fail
        have HJ2 := HJ.out
        obtain ⟨g', hg'⟩ : ∃ g', gk = g' + 1 := ⟨gk - 1, by omega⟩
        subst hg'
        go_roundg g'
        case rel => exact ⟨j + 1, by have := HQ.out; omega, HS, Lib.hid (by have h := one_setCell (u := .int .i64 ((q : Int) + 1)) hA.out; have e : ((q : Nat) : Int) + 1 = ((a + (j + 1) : Nat) : Int) := (by have := HQ.out; omega); rw [e] at h ⊢; exact h), Lib.hid (hB.out.setCell _ _)⟩
        case measure => omega
    · have hq2 : q = s.size := by omega
      have HF := Lib.hid (run_at hP.out (by omega) (fun h => absurd h (by omega)))
      have HF2 := Lib.hid (show ((q : Nat) : Int) = ((a + runLen isPart (s.data.toList.drop a) : Nat) : Int) ∧ q = a + runLen isPart (s.data.toList.drop a) by rw [HF.out, hq]; exact ⟨rfl, rfl⟩)
      have HQ := Lib.hid hq
      have haq : a ≤ q := by omega
      have hqs : q ≤ s.size := by omega
      clear hlen hq hj hq2
      go_wp2_with fail
      go_ret
      exact ⟨⟨by rw [← HF2.out.2]; rfl, by rw [← HF2.out.1, HQ.out]; exact hA.out⟩, hB.out⟩

set_option maxRecDepth 100000 in
set_option maxHeartbeats 3200000 in
theorem passNote_any (s : ByteArray) (a ba bt : Nat) (w : World) (hs : s.size ≤ 281474976710656) (ha : a ≤ s.size) (hA : w.heap[ba]? = some (.cells #[.int .i64 a] 3 (0, 0))) (hT : w.cell? ⟨bt, 0, none⟩ = some (.string s)) (hne : bt ≠ ba) :
    Calls Tryz.prog 50 #[.func (.func 52) #[] #[], .pointer (some ⟨ba, 0, none⟩), .pointer (some ⟨bt, 0, none⟩)] w fun e w' =>
      (e = .returned (.string (s.extract a (a + runLen isNote (s.data.toList.drop a)))) ∧ w'.heap[ba]? = some (.cells #[.int .i64 ((a + runLen isNote (s.data.toList.drop a) : Nat) : Int)] 3 (0, 0))) ∧ But ba w w' := by
  have c0 := cell_of_one hA
  have HT := Lib.hid (And.intro hT (World.block_lt_of_cell? w _ hT))
  have HA := Lib.hid hA
  have HNe := Lib.hid hne
  clear hA hT hne
  go_enter Tryz.func50, Tryz.ntmps50
  go_wp2_with fail
  clear c0
  go_loopg [7] (s.size - a) (fun g x wr => ∃ j : Nat, a + j + g = s.size ∧ Hid (((s.data.toList.drop a).take j).all isNote = true) ∧ Hid (wr.heap[ba]? = some (.cells #[.int .i64 ((a + j : Nat) : Int)] 3 (0, 0))) ∧ Hid (But ba w wr))
  case atStart => exact ⟨0, by omega, Lib.hid rfl, HA, Lib.hid (But.refl _ _)⟩
  case round =>
    obtain ⟨j, hj, hP, hA, hB⟩ := hrel
    have cA := cell_of_one hA.out
    have fA := free_of_one hA.out
    have cT := (hB.out.cell (p := ⟨bt, 0, none⟩) HT.out.2 HNe.out).trans HT.out.1
    have hlen : (s.data.toList.drop a).length = s.size - a := by rw [List.length_drop, ← size_len]
    obtain ⟨q, hq⟩ : ∃ q, q = a + j := ⟨_, rfl⟩
    rw [← hq] at cA hj
    by_cases hlt : q < s.size
    · have hjl : j < (s.data.toList.drop a).length := by omega
      have hg : (s.data.toList.drop a)[j] = s[q]'hlt := by subst hq; rw [List.getElem_drop]; rfl
      have HC := Lib.hid (fun w => note_any (s[q]'hlt) w)
      cases hc : isNote (s[q]'hlt)
      · have HF := Lib.hid (run_at hP.out (by omega) (fun _ => by rw [hg]; exact hc))
        have HF2 := Lib.hid (show ((q : Nat) : Int) = ((a + runLen isNote (s.data.toList.drop a) : Nat) : Int) ∧ q = a + runLen isNote (s.data.toList.drop a) by rw [HF.out, hq]; exact ⟨rfl, rfl⟩)
        have HQ := Lib.hid hq
        have haq : a ≤ q := by omega
        have hqs : q ≤ s.size := by omega
        rw [hc] at HC
        clear hc hlen hjl hg hq hj
        go_wp2_with fail
        refine (HC.out _).mono ?_
        rintro e w' ⟨rfl, rfl⟩
        go_wp2_with fail
        go_ret
        exact ⟨⟨by rw [← HF2.out.2]; rfl, by rw [← HF2.out.1, HQ.out]; exact hA.out⟩, hB.out⟩
      · have HS := Lib.hid (run_snoc hP.out hjl (by rw [hg]; exact hc))
        have HQ := Lib.hid hq
        have HJ := Lib.hid hj
        rw [hc] at HC
        clear hc hlen hjl hg hq hj
        go_wp2_with fail
        refine (HC.out _).mono ?_
        rintro e w' ⟨rfl, rfl⟩
        go_wp2_with fail
        have HJ2 := HJ.out
        obtain ⟨g', hg'⟩ : ∃ g', gk = g' + 1 := ⟨gk - 1, by omega⟩
        subst hg'
        go_roundg g'
        case rel => exact ⟨j + 1, by have := HQ.out; omega, HS, Lib.hid (by have h := one_setCell (u := .int .i64 ((q : Int) + 1)) hA.out; have e : ((q : Nat) : Int) + 1 = ((a + (j + 1) : Nat) : Int) := (by have := HQ.out; omega); rw [e] at h ⊢; exact h), Lib.hid (hB.out.setCell _ _)⟩
        case measure => omega
    · have hq2 : q = s.size := by omega
      have HF := Lib.hid (run_at hP.out (by omega) (fun h => absurd h (by omega)))
      have HF2 := Lib.hid (show ((q : Nat) : Int) = ((a + runLen isNote (s.data.toList.drop a) : Nat) : Int) ∧ q = a + runLen isNote (s.data.toList.drop a) by rw [HF.out, hq]; exact ⟨rfl, rfl⟩)
      have HQ := Lib.hid hq
      have haq : a ≤ q := by omega
      have hqs : q ≤ s.size := by omega
      clear hlen hq hj hq2
      go_wp2_with fail
      go_ret
      exact ⟨⟨by rw [← HF2.out.2]; rfl, by rw [← HF2.out.1, HQ.out]; exact hA.out⟩, hB.out⟩
end Go.Proofs.YtgffiggnmklcoaaGreatDoor
