/- What is asked of a memory: Load, Store, Place. -/
import Derived.Test.YtajjpaabkdgjbaaB7
namespace Go.Proofs.Ytajjpaabkdgjbaa
open Go.RowKit

theorem MemIs.far {w w' : World} {B g : Nat} {l : List Rg} {f : Nat → Nat} (h : MemIs w B g l f) (hk : ∀ k, B ≤ k → k ≤ g → w'.heap[k]? = w.heap[k]?) (hz : g < w'.heap.size) : MemIs w' B g l f := by
  obtain ⟨p, c, q, h1, h2, h3, h4, h5, h6, h7, h8, h9, h10, h11, h12, h13⟩ := h
  have cg : ∀ o, w'.cell? ⟨g, o, none⟩ = w.cell? ⟨g, o, none⟩ := fun o => World.cell?_of_block (w := w) (hk g (by omega) (Nat.le_refl _))
  have fg : ∀ o, w'.frozen? ⟨g, o, none⟩ = w.frozen? ⟨g, o, none⟩ := fun o => World.frozen?_of_block (w := w) (hk g (by omega) (Nat.le_refl _))
  refine ⟨p, c, q, (cg 0).trans h1, (cg 1).trans h2, (World.cell?_of_block (w := w) (hk q h5 (by omega))).trans h3, ⟨h4.1, ?_⟩, h5, h6, hz, h8, h9, h10, h11, fun j hj => ⟨(cg _).trans (h12 j hj).1, (fg _).trans (h12 j hj).2⟩, h13⟩
  rcases h4.2 with h0 | ⟨b, o, hp, hb, ha⟩
  · exact .inl h0
  · exact .inr ⟨b, o, hp, hb, RgAt.keep (fun _ => World.cell?_of_block (w := w) (hk b (h11 b o hp) (by omega))) l o ha⟩
theorem MemIs.later {w w' : World} {B g : Nat} {l : List Rg} {f : Nat → Nat} (h : MemIs w B g l f) (hB : Below w.heap.size w w') : MemIs w' B g l f := by
  have hg : g < w.heap.size := by obtain ⟨p, c, q, h1, h2, h3, h4, h5, h6, h7, _⟩ := h; exact h7
  exact h.far (fun k _ hk => hB.block k (by omega)) (Nat.lt_of_lt_of_le hg hB.size)

set_option maxHeartbeats 400000 in
theorem isNone_mem (g : Nat) (q : Addr) (w : World) (h : w.cell? ⟨g, 1, none⟩ = some (.func (.func 63) #[] #[.pointer (some q)])) :
    Calls Try.prog 43 #[.pointer (some ⟨g, 0, none⟩)] w fun e w' => e = .returned (.bool false) ∧ w = w' := by
  have q0 : ∀ w : World, (binOp .eql 80 (.func (.func 63) #[] #[.pointer (some q)]) .nilFunc).run Try.prog w = .ok (.bool false) w := fun _ => by kernel_rfl
  go_enter Try.func43, Try.ntmps43
  go_wp2_with fail
  go_ret
  exact ⟨rfl, rfl⟩
/-- what a place's error is -/
def errB (l : List Rg) (a : Nat) : Int := if (placeOf l a).1 = -2 then 14 else 0
def errW (l : List Rg) (a : Nat) : Int := if a % 8 = 0 then errB l a else 2

set_option maxHeartbeats 400000 in
theorem checkByte_any (l : List Rg) (f : Nat → Nat) (B g a : Nat) (w : World) (h : MemIs w B g l f) (hok : l.all Rg.ok = true) (ha : a < 18446744073709551616) :
    Calls Try.prog 41 #[.pointer (some ⟨g, 0, none⟩), .int .u64 a] w fun e w' => e = .returned (.int .i64 (errB l a)) ∧ Below w.heap.size w w' := by
  obtain ⟨p, c, q, h1, h2, h3, h4, h5, h6, h7, h8, h9, h10, h11, h12, h13⟩ := h
  have HW := Lib.hid (where_any l p c g q a w h4 (by omega) h3 (by omega) hok ha)
  clear h4 h8 h10 h11 h12 h1 h3
  obtain ⟨⟨z1, z2⟩, hz⟩ : ∃ z : Int × Int, placeOf l a = z := ⟨_, rfl⟩
  rw [errB, hz]
  rw [hz] at HW
  clear hz
  by_cases h0 : z1 = -2
  · subst h0
    go_enter Try.func41, Try.ntmps41
    go_wp2_with (first | (go_at_call 43; (with_reducible refine (isNone_mem g ⟨q, 0, none⟩ _ h2).mono ?_); rintro e w' ⟨rfl, rfl⟩) | (go_at_call 63; refine HW.out.mono ?_; rintro e w' ⟨rfl, hB⟩))
    go_ret
    exact ⟨rfl, hB⟩
  · have d1 : (z1 == -2) = false := by simpa using h0
    go_enter Try.func41, Try.ntmps41
    go_wp2_with (first | (go_at_call 43; (with_reducible refine (isNone_mem g ⟨q, 0, none⟩ _ h2).mono ?_); rintro e w' ⟨rfl, rfl⟩) | (go_at_call 63; refine HW.out.mono ?_; rintro e w' ⟨rfl, hB⟩))
    go_ret
    exact ⟨rfl, hB⟩
end Go.Proofs.Ytajjpaabkdgjbaa
