/- Leakage as a list of what is seen: the walk, and Flat. -/
import Derived.Test.YtdigkdfkaikagaaL8
namespace Go.Proofs.Ytdigkdfkaikagaa
open Go.RowKit

mutual
def Lf.count : Lf → Nat
  | .nil => 0
  | .node _ is _ s r => 1 + is.length + (s.count + r.count)
def Ls.count : Ls → Nat
  | .nil => 0
  | .sub l r => l.count + r.count
end
mutual
theorem Lf.flat_le : ∀ l : Lf, l.flat.length ≤ l.count
  | .nil => Nat.le_refl _
  | .node k is t s r => by
    have := Ls.flat_le s
    have := Lf.flat_le r
    have : (seenOf k is t).length ≤ 1 + is.length := by unfold seenOf; split <;> simp <;> omega
    simp only [Lf.flat, Lf.count, List.length_append]; omega
theorem Ls.flat_le : ∀ l : Ls, l.flat.length ≤ l.count
  | .nil => Nat.le_refl _
  | .sub l r => by
    have := Lf.flat_le l
    have := Ls.flat_le r
    simp only [Ls.flat, Ls.count, List.length_append]; omega
end

theorem Grows.self {c : Nat} {w wr : World} {xs : List Sn} (h : Grows c w wr xs) : Grows c wr wr xs := ⟨Below.refl _ _, h.2⟩
theorem Grows.onto {c : Nat} {w wr w' : World} {xs ys : List Sn} (h : Grows c w wr xs) (k : Grows c wr w' ys) : Grows c w w' ys := ⟨h.1.trans k.1, k.2⟩

def FlatTo (n : Nat) : Prop := ∀ (l : Lf), l.size < n → ∀ (p : Option Addr) (cap N c : Nat) (deep : Int) (w : World) (xs : List Sn), l.In w N p → N ≤ c → Grows c w w xs → xs.length + l.count ≤ 3000000 →
    Calls Try.prog 47 #[.slice p l.len cap, .int .i64 deep, .func (Fn.func 48) #[] #[.pointer (some ⟨c, 0, none⟩)]] w fun e w' => e = .returned (.tuple #[]) ∧ Grows c w w' (xs ++ l.flat)

set_option maxHeartbeats 3200000 in
theorem flat_step (n : Nat) (ih : FlatTo n) : FlatTo (n + 1) := by
  intro l hsz p cap N c deep w xs h hNc hg hcn
  have IH := Lib.hid ih
  clear ih
  have S0 := Lib.hid h
  have hm := h.1
  clear h
  go_enter Try.func47, Try.ntmps47
  go_wp2_with fail
  go_loopw [11] (fun i wr => ∃ (k : Nat) (r : Lf) (ys : List Sn), i = .int .i64 k ∧ k + r.len = l.len ∧ r.size ≤ n ∧ Hid (∀ b o, p = some ⟨b, o, none⟩ → l.At w N b o → r.At w N b (o + k * 4)) ∧ Hid (xs ++ l.flat = ys ++ r.flat) ∧ Hid (ys.length + r.count ≤ 3000000) ∧ Hid (Grows c w wr ys))
    (fun i _ => l.len - (intOf i).toNat)
  case atStart => exact ⟨0, l, xs, rfl, by omega, by omega, Lib.hid fun b o _ h => by rw [Nat.zero_mul]; exact h, Lib.hid rfl, Lib.hid hcn, Lib.hid hg⟩
  case round =>
    clear hg hcn
    obtain ⟨k, r, ys, rfl, hk, hrs, hat, E, hcn, hg⟩ := hrel
    cases r with
    | nil =>
      simp only [Lf.len] at hk
      have hge : ¬ k < l.len := by omega
      have HB := Lib.hid (show Grows c w wr (xs ++ l.flat) by rw [E.out]; simpa [Lf.flat] using hg.out)
      go_wp2_with fail
      go_end0
      exact ⟨rfl, HB.out⟩
    | node kd is t s r =>
      simp only [Lf.len] at hk
      simp only [Lf.size] at hrs
      have hlt : k < l.len := by omega
      rcases S0.out.2 with h30 | ⟨b, o, rfl, hb, ha⟩
      · omega
      obtain ⟨g0, ⟨q, cq, g1, s1⟩, g2, ⟨q3, d, g3, s3⟩, hr⟩ := hat.out b o rfl ha
      have hbel := hg.out.1
      have f0 := (hbel.cell (show b < c by omega)).trans g0
      have f1 := (hbel.cell (show b < c by omega)).trans g1
      have f2 := (hbel.cell (show b < c by omega)).trans g2
      have hcn1 : ys.length + (1 + is.length + (s.count + r.count)) ≤ 3000000 := hcn.out
      have HC1 := Lib.hid hcn1
      have HP := Lib.hid (flat1_any b (o + k * 4) c deep kd is t q cq N wr ys hNc hb f0 f1 (s1.imp (Nat.le_refl _) fun b' o' hb' ha' => Ints.later (hbel.mono hNc) _ _ _ hb' ha') f2 hg.out.self (by omega))
      have E1 := Lib.hid (show xs ++ l.flat = (ys ++ seenOf kd is t) ++ (s.flat ++ r.flat) by rw [E.out]; simp [Lf.flat])
      have HQ := Lib.hid hr
      have S3 := Lib.hid s3
      have hm3 := s3.1
      have hsl : (seenOf kd is t).length ≤ 1 + is.length := by unfold seenOf; split <;> simp <;> omega
      have HL := Lib.hid (show (ys ++ seenOf kd is t).length + (s.count + r.count) ≤ 3000000 by rw [List.length_append]; omega)
      clear g0 g1 g2 f0 f1 f2 s1 s3 hr hcn1 hsl ha hbel
      go_wp2_with (go_at_call 48; refine HP.out.mono ?_; rintro e w1 ⟨rfl, hG⟩; have f3 := ((hg.out.onto hG).1.cell (show b < c by omega)).trans g3)
      have hg1 := Lib.hid (hg.out.onto hG)
      clear g3 hG
      go_loopw [27] (fun i wr' => ∃ (j : Nat) (z : Ls) (us : List Sn), i = .int .i64 j ∧ j + z.len = s.len ∧ z.size ≤ s.size ∧ Hid (∀ b o, q3 = some ⟨b, o, none⟩ → s.At w N b o → z.At w N b (o + j)) ∧
          Hid (xs ++ l.flat = us ++ (z.flat ++ r.flat)) ∧ Hid (us.length + (z.count + r.count) ≤ 3000000) ∧ Hid (Grows c w wr' us))
        (fun i _ => s.len - (intOf i).toNat)
      case atStart => exact ⟨0, s, ys ++ seenOf kd is t, rfl, by omega, Nat.le_refl _, Lib.hid fun b o _ h => h, E1, HL, hg1⟩
      case round =>
        clear hg1 HL E1 HP
        obtain ⟨j, z, us, rfl, hj, hzs, hzat, E3, hcn3, hg3⟩ := hrel
        cases z with
        | nil =>
          simp only [Ls.len] at hj
          have hge : ¬ j < s.len := by omega
          go_wp2_with fail
          go_roundw
          case rel => exact ⟨k + 1, r, us, by go_num, by omega, by omega, Lib.hid fun b' o' hbo _ => by cases hbo; exact At_step HQ.out, E3, Lib.hid (by simpa [Ls.count] using hcn3.out), hg3⟩
          case measure => simp [intOf]; omega
        | sub l2 r2 =>
          rcases S3.out.2 with h30 | ⟨b3, o3, rfl, hb3, ha3⟩
          · simp only [Ls.len] at hj; omega
          obtain ⟨⟨q4, c4, g4, s4⟩, hzz⟩ := hzat.out b3 o3 rfl ha3
          simp only [Ls.len] at hj
          simp only [Ls.size] at hzs
          have hlt3 : j < s.len := by omega
          have hbel := hg3.out.1
          have f4 := (hbel.cell (show b3 < c by omega)).trans g4
          have hcn4 : us.length + (l2.count + r2.count + r.count) ≤ 3000000 := hcn3.out
          have HR := Lib.hid (fun deep => IH.out l2 (by omega) q4 c4 N c deep _ us (s4.imp (Nat.le_refl _) fun b' o' hb' ha' => Lf.At.later (hbel.mono hNc) (Nat.le_refl _) _ _ _ hb' ha') hNc hg3.out.self (by omega))
          have HZ := Lib.hid hzz
          have HL := Lib.hid (show (us ++ l2.flat).length + (r2.count + r.count) ≤ 3000000 by have := Lf.flat_le l2; rw [List.length_append]; omega)
          clear g4 s4 hzz hbel hcn4 ha3
          go_wp2_with (go_at_call 47; refine (HR.out _).mono ?_; rintro e w' ⟨rfl, hG⟩)
          go_roundw
          case rel => exact ⟨j + 1, r2, us ++ l2.flat, by go_num, by omega, by omega, Lib.hid fun b' o' hbo _ => by cases hbo; exact HZ.out, Lib.hid (by rw [E3.out]; simp [Ls.flat]), HL, Lib.hid (hg3.out.onto hG)⟩
          case measure => simp [intOf]; omega

theorem flat_to : ∀ n, FlatTo n
  | 0 => fun _ h => absurd h (Nat.not_lt_zero _)
  | n + 1 => flat_step n (flat_to n)
end Go.Proofs.Ytdigkdfkaikagaa
