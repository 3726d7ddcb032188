/- Are two lists of tokens the same, the program's and the document's. -/
import Derived.Test.YtgffiggnmklcoaaGreatDoorM1
import Derived.Deep.QuietTactic
import Derived.BigQuiet
namespace Go.Proofs.YtgffiggnmklcoaaGreatDoor
open Go.RowKit

def sameT (x y : Tz) : Bool := decide (x.kind = y.kind) && decide (x.text = y.text) && decide (x.word = y.word)
def sameZ : List Tz → List Tz → Bool
  | [], [] => true
  | x :: a, y :: b => sameT x y && sameZ a b
  | _, _ => false
theorem sameZ_len {a b : List Tz} (h : a.length ≠ b.length) : sameZ a b = false := by
  induction a generalizing b with
  | nil =>
    cases b with
    | nil => exact absurd rfl h
    | cons y b => rfl
  | cons x a ih =>
    cases b with
    | nil => rfl
    | cons y b =>
      rw [sameZ, ih (by simpa using h), Bool.and_false]
theorem sameZ_snoc {a b : List Tz} {k : Nat} {x y : Tz} (h : sameZ (a.take k) (b.take k) = true) (ha : a[k]? = some x) (hb : b[k]? = some y) (hs : sameT x y = true) : sameZ (a.take (k + 1)) (b.take (k + 1)) = true := by
  induction k generalizing a b with
  | zero =>
    cases a with
    | nil => cases ha
    | cons x' a =>
      cases b with
      | nil => cases hb
      | cons y' b =>
        simp at ha hb; subst ha; subst hb
        simp [sameZ, hs]
  | succ k ih =>
    cases a with
    | nil => cases ha
    | cons x' a =>
      cases b with
      | nil => cases hb
      | cons y' b =>
        simp only [List.take_succ_cons, sameZ, Bool.and_eq_true] at h ⊢
        exact ⟨h.1, ih h.2 (by simpa using ha) (by simpa using hb)⟩
theorem sameZ_no {a b : List Tz} {k : Nat} {x y : Tz} (ha : a[k]? = some x) (hb : b[k]? = some y) (hs : sameT x y = false) : sameZ a b = false := by
  induction k generalizing a b with
  | zero =>
    cases a with
    | nil => cases ha
    | cons x' a =>
      cases b with
      | nil => cases hb
      | cons y' b =>
        simp at ha hb; subst ha; subst hb
        simp [sameZ, hs]
  | succ k ih =>
    cases a with
    | nil => cases ha
    | cons x' a =>
      cases b with
      | nil => cases hb
      | cons y' b =>
        rw [sameZ, ih (by simpa using ha) (by simpa using hb), Bool.and_false]
theorem sameT_self (x : Tz) : sameT x x = true := by simp [sameT]
theorem sameZ_self (a : List Tz) : sameZ a a = true := by
  induction a with
  | nil => rfl
  | cons x a ih => rw [sameZ, sameT_self, ih]; rfl
theorem str_beq (x y : List UInt8) : ((str x).toList == (str y).toList) = decide (x = y) := by
  rw [Lib.toList_data, Lib.toList_data, str_data, str_data, Bool.eq_iff_iff]; simp
theorem str_bne (x y : List UInt8) : ((str x).toList != (str y).toList) = !decide (x = y) := by
  rw [bne, str_beq]
theorem int_beq (x y : Int) : (x == y) = decide (x = y) := by rw [Bool.eq_iff_iff]; simp
theorem int_bne (x y : Int) : (x != y) = !decide (x = y) := by rw [bne, int_beq]

set_option maxRecDepth 100000 in
set_option maxHeartbeats 3200000 in
theorem same1_any (x y : Tz) (w : World) : Calls Tryz.prog 48 #[.agg #[.int .i64 x.kind, .string (str x.text), .int .u64 x.word, .int .i64 x.line, .int .i64 x.col], .agg #[.int .i64 y.kind, .string (str y.text), .int .u64 y.word, .int .i64 y.line, .int .i64 y.col]] w fun e w' => e = .returned (.bool (sameT x y)) ∧ Below w.heap.size w w' := by
  have e1 := int_beq x.kind y.kind
  have e2 := str_beq x.text y.text
  have e3 := int_beq x.word y.word
  have hB := fun (o1 o2 : Obj) => ((Below.refl w.heap.size w).alloc (Nat.le_refl _) o1).alloc (by simp) o2
  have HB := Lib.hid hB
  unfold sameT
  clear hB
  generalize decide (x.kind = y.kind) = a at e1 ⊢
  generalize decide (x.text = y.text) = b at e2 ⊢
  generalize decide (x.word = y.word) = c at e3 ⊢
  cases a <;> cases b <;> cases c <;>
  · go_enter Tryz.func48, Tryz.ntmps48
    go_wp2_with fail
    go_ret
    exact ⟨rfl, HB.out _ _⟩

set_option maxRecDepth 100000 in
set_option maxHeartbeats 3200000 in
theorem equalFunc_any (a b : List Tz) (p q : Option Addr) (c d N : Nat) (w : World) (ha : TzsIn w N a p) (hb : TzsIn w N b q) (hN : N ≤ w.heap.size) (hc : a.length ≤ c) (hcm : c ≤ 9223372036854775807) (hd : b.length ≤ d) (_hdm : d ≤ 9223372036854775807) :
    Calls Tryz.prog 47 #[.slice p a.length c, .slice q b.length d, .func (.func 48) #[] #[]] w fun e w' => e = .returned (.bool (sameZ a b)) ∧ Below w.heap.size w w' := by
  have HA := Lib.hid ha
  have HB := Lib.hid hb
  clear ha hb
  by_cases hl : a.length = b.length
  · have HLn := Lib.hid hl
    obtain ⟨n, hn⟩ : ∃ n, b.length = n := ⟨_, rfl⟩
    have HNn := Lib.hid hn
    rw [hl, hn]
    rw [hl, hn] at hc
    rw [hn] at hd
    clear hl hn
    go_enter Tryz.func47, Tryz.ntmps47
    go_wp2_with fail
    go_loopw [17] (fun i wr => ∃ k : Nat, i = .int .i64 k ∧ k ≤ n ∧ Hid (sameZ (a.take k) (b.take k) = true) ∧ Hid (Below w.heap.size w wr)) (fun i _ => n - (intOf i).toNat)
    case atStart => exact ⟨0, rfl, by omega, Lib.hid rfl, Lib.hid (Below.refl _ _)⟩
    case round =>
      obtain ⟨k, rfl, hk, hS, hB⟩ := hrel
      by_cases hlt : k < n
      · obtain ⟨x, hx⟩ : ∃ x, a[k]? = some x := ⟨_, List.getElem?_eq_getElem (by have := HLn.out; have := HNn.out; omega)⟩
        obtain ⟨y, hy⟩ : ∃ y, b[k]? = some y := ⟨_, List.getElem?_eq_getElem (by have := HNn.out; omega)⟩
        obtain ⟨b1, o1, rfl, hb1, hA1⟩ : ∃ b1 o1, p = some ⟨b1, o1, none⟩ ∧ b1 < N ∧ ∀ i t, a[i]? = some t → TzAt w t b1 (o1 + i * 5) := by
          rcases HA.out with h0 | h0
          · have := HLn.out; have := HNn.out; omega
          · exact h0
        obtain ⟨b2, o2, rfl, hb2, hA2⟩ : ∃ b2 o2, q = some ⟨b2, o2, none⟩ ∧ b2 < N ∧ ∀ i t, b[i]? = some t → TzAt w t b2 (o2 + i * 5) := by
          rcases HB.out with h0 | h0
          · have := HNn.out; omega
          · exact h0
        have hz1 : b1 < w.heap.size := by omega
        have hz2 : b2 < w.heap.size := by omega
        obtain ⟨c0, c1, c2, c3, c4⟩ := (hA1 k x hx).later hz1 hB.out
        obtain ⟨d0, d1, d2, d3, d4⟩ := (hA2 k y hy).later hz2 hB.out
        have hz3 := Nat.lt_of_lt_of_le hz1 hB.out.size
        have hz4 := Nat.lt_of_lt_of_le hz2 hB.out.size
        have HC := Lib.hid (fun w => same1_any x y w)
        have HSn := Lib.hid (fun h => sameZ_snoc hS.out hx hy h)
        have HNo := Lib.hid (fun h => sameZ_no hx hy h)
        have HBa := Lib.hid (fun o1 o2 => (hB.out.alloc hB.out.size o1).alloc (Nat.le_trans hB.out.size (by simp)) o2)
        cases hs : sameT x y
        · rw [hs] at HC
          have HF := Lib.hid (HNo.out hs)
          clear hs HSn HNo hx hy hA1 hA2
          go_wp2_with fail
          refine (HC.out _).mono ?_
          rintro e w2 ⟨rfl, hB2⟩
          have HB2 := Lib.hid ((HBa.out _ _).trans (hB2.mono (HBa.out _ _).size))
          clear hB2
          go_wp2_with fail
          go_ret
          exact ⟨ret_bool HF.out.symm, HB2.out⟩
        · rw [hs] at HC
          have HT := Lib.hid (HSn.out hs)
          clear hs HSn HNo hx hy hA1 hA2
          go_wp2_with fail
          refine (HC.out _).mono ?_
          rintro e w2 ⟨rfl, hB2⟩
          have HB2 := Lib.hid ((HBa.out _ _).trans (hB2.mono (HBa.out _ _).size))
          clear hB2
          go_wp2_with fail
          go_roundw
          case rel => exact ⟨k + 1, by go_num, by omega, HT, HB2⟩
          case measure => simp [intOf]; omega
      · obtain rfl : k = n := by omega
        have HF := Lib.hid (show sameZ a b = true by
          have h := hS.out
          rw [List.take_of_length_le (by have := HLn.out; have := HNn.out; omega), List.take_of_length_le (by have := HNn.out; omega)] at h; exact h)
        go_wp2_with fail
        go_ret
        exact ⟨ret_bool HF.out.symm, hB.out⟩
  · have HF := Lib.hid (sameZ_len hl)
    have hne : ((a.length : Int) != b.length) = true := by simp; omega
    have hl' : ¬ (a.length : Int) = b.length := by omega
    go_enter Tryz.func47, Tryz.ntmps47
    go_wp2_with fail
    go_ret
    exact ⟨ret_bool HF.out.symm, Below.refl _ _⟩
theorem same_any (a b : List Tz) (p q : Option Addr) (c d N : Nat) (w : World) (ha : TzsIn w N a p) (hb : TzsIn w N b q) (hN : N ≤ w.heap.size) (hc : a.length ≤ c) (hcm : c ≤ 9223372036854775807) (hd : b.length ≤ d) (hdm : d ≤ 9223372036854775807) :
    Calls Tryz.prog 27 #[.slice p a.length c, .slice q b.length d] w fun e w' => e = .returned (.bool (sameZ a b)) ∧ Below w.heap.size w w' := by
  have HC := Lib.hid (equalFunc_any a b p q c d N w ha hb hN hc hcm hd hdm)
  clear ha hb
  go_enter Tryz.func27, Tryz.ntmps27
  go_wp2_with fail
  refine HC.out.mono ?_
  rintro e w1 ⟨rfl, hB⟩
  go_wp2_with fail
  go_ret
  exact ⟨rfl, hB⟩
end Go.Proofs.YtgffiggnmklcoaaGreatDoor
