/- May a list of terms be? -/
import Derived.Test.YtdigkdfkaikagaaT5
namespace Go.Proofs.Ytdigkdfkaikagaa
open Go.RowKit

set_option maxHeartbeats 1600000 in
theorem terms_any (l : Tf) (p : Option Addr) (cap N : Nat) (w : World) (h : l.In w N p) (hN : N ≤ w.heap.size) (hd : l.deep ≤ 512) (hc : l.len + l.under ≤ 1000000) :
    Calls Try.prog 10 #[.slice p l.len cap] w fun e w' => e = .returned (.bool l.okT) ∧ Below w.heap.size w w' := by
  have hmf : ∀ (fn : Fn) (first cap : Array Value) (w : World), (Instr.makeFunc fn first cap).run Try.prog w = .ok (.func fn first cap) w := fun _ _ _ _ => rfl
  have hst : ∀ (a : Addr) (f : Fn) (c1 c2 : Array Value) (m : Mode) (w : World), (store a (.func f c1 c2) m).run Try.prog w = stored Try.prog w a (.func f c1 c2) m := fun _ _ _ _ _ _ => run_store _ _ _ _ _ rfl
  have HT := Lib.hid (fun (w1 : World) (hb : Below w.heap.size w w1) (hk : TK w.heap.size (w.heap.size + 1) w1 w1 1000000) => terms_to _ l (Nat.lt_succ_self _) p cap N w.heap.size (w.heap.size + 1) 1 1000000 w1 (Tf.In_later h hb hN) hN (by omega) (by omega) (by omega) (by omega) hk)
  clear h
  go_enter Try.func10, Try.ntmps10
  have HK := Lib.hid (show ∀ v, v = mayFn w.heap.size (w.heap.size + 1) → Below w.heap.size w ((w.alloc (Obj.cells #[Value.int IntKind.i64 1000000] 3)).alloc (Obj.cells #[v] 59)) ∧
      TK w.heap.size (w.heap.size + 1) ((w.alloc (Obj.cells #[Value.int IntKind.i64 1000000] 3)).alloc (Obj.cells #[v] 59)) ((w.alloc (Obj.cells #[Value.int IntKind.i64 1000000] 3)).alloc (Obj.cells #[v] 59)) 1000000 by
    rintro v rfl
    exact ⟨((Below.refl _ w).alloc (Nat.le_refl _) _).alloc (by simp) _, Below.refl _ _, by simp [go_sem], by simp [go_sem], by simp [go_sem, mayFn]⟩)
  go_wp2_with (go_at_call 26; refine (HT.out _ (HK.out _ rfl).1 (HK.out _ rfl).2).mono ?_; rintro e w1 ⟨rfl, hB, _⟩)
  go_ret
  exact ⟨rfl, (HK.out _ rfl).1.trans hB⟩
end Go.Proofs.Ytdigkdfkaikagaa
