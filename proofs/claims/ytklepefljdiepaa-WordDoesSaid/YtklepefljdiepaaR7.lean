/- The document's Do comes to what layer 1's Do comes to, at each width. -/
import Derived.Test.YtklepefljdiepaaR6a
import Derived.Test.YtklepefljdiepaaR6b
import Derived.Test.YtklepefljdiepaaR6c
import Derived.Test.YtklepefljdiepaaR6d
namespace Go.Proofs.Ytklepefljdiepaa
open Go.RowKit
theorem dZ (op k a b : Nat) (c : Bool) : (WM.doF op k a b c).z = (WM.doX op k a b c == 0) := rfl
theorem dS (op k a b : Nat) (c : Bool) : (WM.doF op k a b c).s = WM.top k (WM.doX op k a b c) := rfl
theorem dP (op k a b : Nat) (c : Bool) : (WM.doF op k a b c).p = WM.par (WM.doX op k a b c) := rfl
theorem dC (op k a b : Nat) (c : Bool) : (WM.doF op k a b c).c = WM.binC op k (WM.low k a) (WM.low k b) (WM.one c) := rfl
theorem dO (op k a b : Nat) (c : Bool) : (WM.doF op k a b c).o = WM.binO op k (WM.low k a) (WM.low k b) (WM.one c) := rfl
theorem dX (op k a b : Nat) (c : Bool) : WM.doX op k a b c = WM.binX op k (WM.low k a) (WM.low k b) (WM.one c) := rfl
theorem dx1 (k A B c : Nat) : WM.binX 1 k A B c = WM.addX k A B 0 := by simp [WM.binX]
theorem dc1 (k A B c : Nat) : WM.binC 1 k A B c = WM.addC k A B 0 := by simp [WM.binC]
theorem do1' (k A B c : Nat) : WM.binO 1 k A B c = WM.addO k A B 0 := by simp [WM.binO]
theorem dx2 (k A B c : Nat) : WM.binX 2 k A B c = WM.addX k A B c := by simp [WM.binX]
theorem dc2 (k A B c : Nat) : WM.binC 2 k A B c = WM.addC k A B c := by simp [WM.binC]
theorem do2' (k A B c : Nat) : WM.binO 2 k A B c = WM.addO k A B c := by simp [WM.binO]
theorem dx3 (k A B c : Nat) : WM.binX 3 k A B c = WM.subX k A B 0 := by simp [WM.binX]
theorem dc3 (k A B c : Nat) : WM.binC 3 k A B c = WM.subC A B 0 := by simp [WM.binC]
theorem do3' (k A B c : Nat) : WM.binO 3 k A B c = WM.subO k A B 0 := by simp [WM.binO]
theorem dx4 (k A B c : Nat) : WM.binX 4 k A B c = WM.subX k A B c := by simp [WM.binX]
theorem dc4 (k A B c : Nat) : WM.binC 4 k A B c = WM.subC A B c := by simp [WM.binC]
theorem do4' (k A B c : Nat) : WM.binO 4 k A B c = WM.subO k A B c := by simp [WM.binO]
theorem dx5 (k A B c : Nat) : WM.binX 5 k A B c = A &&& B := by simp [WM.binX]
theorem dc5 (k A B c : Nat) : WM.binC 5 k A B c = false := by simp [WM.binC]
theorem do5' (k A B c : Nat) : WM.binO 5 k A B c = false := by simp [WM.binO]
theorem dx6 (k A B c : Nat) : WM.binX 6 k A B c = A ||| B := by simp [WM.binX]
theorem dc6 (k A B c : Nat) : WM.binC 6 k A B c = false := by simp [WM.binC]
theorem do6' (k A B c : Nat) : WM.binO 6 k A B c = false := by simp [WM.binO]
theorem dx7 (k A B c : Nat) : WM.binX 7 k A B c = A ^^^ B := by simp [WM.binX]
theorem dc7 (k A B c : Nat) : WM.binC 7 k A B c = false := by simp [WM.binC]
theorem do7' (k A B c : Nat) : WM.binO 7 k A B c = false := by simp [WM.binO]
theorem dx8 (k A B c : Nat) : WM.binX 8 k A B c = WM.mulX k A B := by simp [WM.binX]
theorem dc8 (k A B c : Nat) : WM.binC 8 k A B c = WM.mulC k A B := by simp [WM.binC]
theorem do8' (k A B c : Nat) : WM.binO 8 k A B c = WM.mulC k A B := by simp [WM.binO]
theorem aO_def (k a b c : Nat) : WM.addO k a b c = (WM.top k a == WM.top k b && WM.top k (WM.addX k a b c) != WM.top k a) := rfl
theorem sO_def (k a b c : Nat) : WM.subO k a b c = (WM.top k a != WM.top k b && WM.top k (WM.subX k a b c) == WM.top k b) := rfl
theorem refDo_any (op k a b : Nat) (f : WM.Fl) (w : World) (h1 : 1 ≤ op) (h8 : op ≤ 8) (hk : k = 8 ∨ k = 16 ∨ k = 32 ∨ k = 64) (ha : a < 18446744073709551616) (hb : b < 18446744073709551616) :
    Calls Try.prog 23 #[.int .i64 op, .int .i64 k, .int .u64 a, .int .u64 b, .agg #[.bool f.c, .bool f.z, .bool f.s, .bool f.o, .bool f.p]] w fun e w' => e = .returned (.tuple #[.int .u64 ((WM.doX op k a b f.c : Nat) : Int), .agg #[.bool (WM.doF op k a b f.c).c, .bool (WM.doF op k a b f.c).z, .bool (WM.doF op k a b f.c).s, .bool (WM.doF op k a b f.c).o, .bool (WM.doF op k a b f.c).p]]) ∧ Below w.heap.size w w' := by
  have k1 : 1 ≤ k := by omega
  have h64 : k ≤ 64 := by omega
  have hA := WM.low_lt k a
  have hB := WM.low_lt k b
  have hA64 := WM.low_lt64 a h64
  have hB64 := WM.low_lt64 b h64
  have CL1 := fun w => refLow_any k a w hk ha
  have CL2 := fun w => refLow_any k b w hk hb
  have T := fun x w => refTop_any k x w k1 h64
  have BY := fun x c z s o p w => refBy_any k x c z s o p w k1 h64
  rw [dZ, dS, dP, dC, dO, dX]
  generalize WM.low k a = A at *
  generalize WM.low k b = B at *
  have hops : op = 1 ∨ op = 2 ∨ op = 3 ∨ op = 4 ∨ op = 5 ∨ op = 6 ∨ op = 7 ∨ op = 8 := by omega
  rcases hops with rfl | rfl | rfl | rfl | rfl | rfl | rfl | rfl
  · rw [dx1, dc1, do1', aO_def]
    have hs := WM.add_same A B 0 hk hA hB (by decide)
    have CA := fun w => refAdd_any k A B false w h64 hA64 hB64
    rw [show WM.one false = 0 from rfl, hs.1, hs.2] at CA
    exact refDo1 k a b _ _ _ _ _ _ _ f.c f.z f.s f.o f.p w CL1 CL2 CA (T _) (T _) (T _) (BY _ _ _ _ _ _)
  · rw [dx2, dc2, do2', aO_def]
    have hs := WM.add_same A B (WM.one f.c) hk hA hB (WM.one_le _)
    have CA := fun w => refAdd_any k A B f.c w h64 hA64 hB64
    rw [hs.1, hs.2] at CA
    exact refDo2 k a b _ _ _ _ _ _ _ f.c f.z f.s f.o f.p w CL1 CL2 CA (T _) (T _) (T _) (BY _ _ _ _ _ _)
  · rw [dx3, dc3, do3', sO_def]
    have hs := WM.sub_same A B 0 hk hA hB (by decide)
    have CA := fun w => refAdd_any k A (WM.low k (WM.comp B)) true w h64 hA64 (WM.low_lt64 _ h64)
    rw [show WM.one true = 1 - 0 from rfl, hs.1] at CA
    have := refDo3 k a b _ _ _ _ _ _ _ _ f.c f.z f.s f.o f.p w CL1 CL2 (fun w => refLow_any k _ w hk (WM.comp_lt _)) CA (T _) (T _) (T _) hB64 (BY _ _ _ _ _ _)
    rw [hs.2] at this
    exact this
  · rw [dx4, dc4, do4', sO_def]
    have ho : 1 - WM.one f.c = WM.one (!f.c) := by cases f.c <;> rfl
    have hs := WM.sub_same A B (WM.one f.c) hk hA hB (WM.one_le _)
    have CA := fun w => refAdd_any k A (WM.low k (WM.comp B)) (!f.c) w h64 hA64 (WM.low_lt64 _ h64)
    rw [← ho, hs.1] at CA
    have := refDo4 k a b _ _ _ _ _ _ _ _ f.c f.z f.s f.o f.p w CL1 CL2 (fun w => refLow_any k _ w hk (WM.comp_lt _)) CA (T _) (T _) (T _) hB64 (BY _ _ _ _ _ _)
    rw [hs.2] at this
    exact this
  · rw [dx5, dc5, do5']
    exact refDo5 k a b _ _ _ _ f.c f.z f.s f.o f.p w CL1 CL2 (WM.w_and _ _ hA64 hB64) (BY _ _ _ _ _ _)
  · rw [dx6, dc6, do6']
    exact refDo6 k a b _ _ _ _ f.c f.z f.s f.o f.p w CL1 CL2 (WM.w_or _ _ hA64 hB64) (BY _ _ _ _ _ _)
  · rw [dx7, dc7, do7']
    exact refDo7 k a b _ _ _ _ f.c f.z f.s f.o f.p w CL1 CL2 (WM.w_xor _ _ hA64 hB64) (BY _ _ _ _ _ _)
  · rw [dx8, dc8, do8']
    have hX' : WM.mulX k A B = WM.low k (A * B) := WM.mulX_low _ _ hk
    have hX : WM.low k (A * B % 18446744073709551616) = WM.mulX k A B := by rw [WM.low_mod64 _ h64, hX']
    have CX := fun w => refLow_any k (A * B % 18446744073709551616) w hk (Nat.mod_lt _ (by decide))
    rw [hX] at CX
    have hm := WM.mulX_lt A B h64
    have CF := fun w => refFits_any k A B (WM.mulX k A B) w hk hA64 hB64 hm
    have hf := WM.fits_same A B hk
    rw [← hX'] at hf
    generalize WM.mulX k A B = X at *
    generalize WM.mulC k A B = C at *
    generalize WM.fitsN (WM.sig k A) (WM.sig k B) (WM.sig k X) = fb at *
    subst hf
    exact refDo8 k a b _ _ _ _ _ _ f.c f.z f.s f.o f.p w CL1 CL2 (WM.w_mul _ _) CX CF (BY _ _ _ _ _ _)
end Go.Proofs.Ytklepefljdiepaa
