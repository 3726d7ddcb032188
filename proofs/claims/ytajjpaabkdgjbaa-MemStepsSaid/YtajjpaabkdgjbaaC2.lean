/- The document's word of bytes: get. Which bytes are which words'. -/
import Derived.Test.YtajjpaabkdgjbaaBF
import Derived.Test.YtajjpaabkdgjbaaN1
import Derived.Test.YtajjpaabkdgjbaaB7
namespace Go.Proofs.Ytajjpaabkdgjbaa
open Go.RowKit

/-- the word of eight bytes -/
def wordFrom (bt : Nat → Nat) (a : Nat) : Nat → Nat
  | 0 => 0
  | n + 1 => wordFrom bt (a + 1) n * 256 + bt a
def wordAt (bt : Nat → Nat) (a : Nat) : Nat := wordFrom bt a 8
theorem wordFrom_lt {bt : Nat → Nat} (h : ∀ j, bt j < 256) : ∀ n a, wordFrom bt a n < 2 ^ (n * 8)
  | 0, _ => by simp [wordFrom]
  | n + 1, a => by
    have h1 := wordFrom_lt h n (a + 1)
    have h2 := h a
    rw [wordFrom, show 2 ^ ((n + 1) * 8) = 2 ^ (n * 8) * 256 by rw [Nat.add_mul, Nat.pow_add]]
    omega
theorem wordFrom_byte {bt : Nat → Nat} (h : ∀ j, bt j < 256) : ∀ n a i, i < n → byteOf (wordFrom bt a n) i = bt (a + i)
  | 0, _, _, hi => absurd hi (Nat.not_lt_zero _)
  | n + 1, a, 0, _ => by
    have h2 := h a
    simp only [byteOf, wordFrom, Nat.zero_mul, Nat.pow_zero, Nat.div_one, Nat.add_zero]; omega
  | n + 1, a, i + 1, hi => by
    have h2 := h a
    have h3 := wordFrom_byte h n (a + 1) i (by omega)
    rw [show a + (i + 1) = a + 1 + i by omega, ← h3, byteOf, byteOf, wordFrom, show 2 ^ ((i + 1) * 8) = 256 * 2 ^ (i * 8) by rw [Nat.add_mul, Nat.pow_add, Nat.mul_comm], ← Nat.div_div_eq_div_mul]
    congr 2
    omega
/-- the words' bytes are these -/
def RelWB (f bt : Nat → Nat) : Prop := ∀ a, a < 65536 → bt a = byteOf (f (a / 8)) (a % 8)
theorem word_eq {f bt : Nat → Nat} (hr : RelWB f bt) (hb : ∀ j, bt j < 256) (hf : ∀ j, f j < 18446744073709551616) (j : Nat) (hj : j < 8192) : wordAt bt (8 * j) = f j := by
  refine bytes_eq (Nat.lt_of_lt_of_le (wordFrom_lt hb 8 _) (by decide)) (hf j) fun i hi => ?_
  rw [wordAt, wordFrom_byte hb 8 _ i hi, hr _ (by omega), show (8 * j + i) / 8 = j by omega, show (8 * j + i) % 8 = i by omega]

theorem step_word (bt : Nat → Nat) (a k : Nat) (x : Nat) (hx : x = wordFrom bt (a + (k + 1)) (7 - k)) (hk : k ≤ 7) : x * 256 + bt (a + k) = wordFrom bt (a + k) (8 - k) := by
  rw [show 8 - k = (7 - k) + 1 by omega, wordFrom, hx, Nat.add_assoc]

set_option maxHeartbeats 1600000 in
theorem get_any (l : List Rg) (bt : Nat → Nat) (B g a : Nat) (w : World) (h : RefIs w B g l bt) (ha : a + 8 ≤ 65536) :
    Calls Try.prog 40 #[.pointer (some ⟨g, 0, none⟩), .int .i64 a] w fun e w' => e = .returned (.int .u64 (wordAt bt a : Nat)) ∧ w = w' := by
  obtain ⟨p, c, q, h1, h2, h4, h5, h6, h7, h8, h9, h10, h11, h12, h13⟩ := h
  have HC := Lib.hid h12
  have HL := Lib.hid h13
  clear h1 h4 h10 h11 h12 h13
  go_enter Try.func40, Try.ntmps40
  go_wp2_with fail
  go_loopg [5, 6] 8 (fun gh x i wr => ∃ (k : Nat) (z : Int), gh = k ∧ k ≤ 8 ∧ i = .int .i64 z ∧ z + 1 = k ∧ (∃ v : Nat, x = .int .u64 v ∧ Hid (v = wordFrom bt (a + k) (8 - k))) ∧ wr = w)
  case atStart => exact ⟨8, 7, rfl, Nat.le_refl _, rfl, rfl, ⟨0, rfl, Lib.hid rfl⟩, rfl⟩
  case round =>
    obtain ⟨k, z, hgk, hk, rfl, hz, ⟨v, rfl, HV⟩, rfl⟩ := hrel
    cases k with
    | zero =>
      obtain rfl : z = -1 := by omega
      clear hz hgk
      go_wp2_with fail
      go_ret
      exact ⟨ret_int (by rw [HV.out]; rfl), rfl⟩
    | succ k =>
      obtain rfl : z = (k : Int) := by omega
      have hgk' : k < gk := by omega
      clear hz hgk
      have hc := (HC.out (a + k) (by omega)).1
      have hb := HL.out (a + k)
      have hv : v < 72057594037927936 := by
        rw [HV.out]
        refine Nat.lt_of_lt_of_le (wordFrom_lt HL.out _ _) ?_
        rw [show (72057594037927936 : Nat) = 2 ^ 56 by decide]
        exact Nat.pow_le_pow_right (by decide) (by omega)
      have HS := Lib.hid (step_word bt a k v (by rw [HV.out, show 8 - (k + 1) = 7 - k by omega]) (by omega))
      generalize bt (a + k) = y at hc hb HS
      go_wp2_with fail
      go_roundg k
      case measure => exact hgk'
      case rel => exact ⟨k, (k : Int) - 1, rfl, by omega, rfl, by omega, ⟨v * 256 + y, by simp, Lib.hid HS.out⟩, rfl⟩
end Go.Proofs.Ytajjpaabkdgjbaa
