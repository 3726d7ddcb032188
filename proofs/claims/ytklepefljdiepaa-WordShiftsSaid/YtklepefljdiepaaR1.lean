import Derived.Test.YtklepefljdiepaaW7
import Derived.Test.YtklepefljdiepaaM4
namespace Go.Proofs.Ytklepefljdiepaa
open Go.RowKit
set_option maxHeartbeats 400000 in
theorem refWide_any (a b : Int) (w : World) (a0 : 0 ≤ a) (a1 : a < 18446744073709551616) (b0 : 0 ≤ b) (b1 : b < 18446744073709551616) :
    Calls Try.prog 27 #[.int .u64 a, .int .u64 b] w fun e w' => e = .returned (.tuple #[.int .u64 ((WM.wideHi a.toNat b.toNat : Nat) : Int), .int .u64 ((WM.wideLo a.toNat b.toNat : Nat) : Int)]) ∧ w = w' := by
  obtain ⟨a, rfl⟩ := Int.eq_ofNat_of_zero_le a0
  obtain ⟨b, rfl⟩ := Int.eq_ofNat_of_zero_le b0
  obtain ⟨x, y, u, v, L, XV, M, YU, R, YV, S, hx, hy, hu, hv, hL, hXV, hM, hYU, hR, hYV, hS, hT, bL, bM, bR⟩ := WM.parts a b (by omega) (by omega)
  have hlo : IntKind.u64.wrap ((a : Int) * b) = ((WM.wideLo a b : Nat) : Int) := WM.w_mul a b
  go_enter Try.func27, Try.ntmps27
  go_wp2
  go_ret2
  exact ⟨rfl, rfl⟩
end Go.Proofs.Ytklepefljdiepaa
