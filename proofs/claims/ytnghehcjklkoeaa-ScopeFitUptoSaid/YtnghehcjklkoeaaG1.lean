/- What is asked of regions. -/
import Derived.Test.YtnghehcjklkoeaaF1
import Derived.Test.YtnghehcjklkoeaaF2
import Derived.Deep.RegionHeld3
namespace Go.Proofs.Ytnghehcjklkoeaa
open Go.RowKit

/-- names, none of which is there yet, nor twice -/
def newB : (List UInt8 → Nat) → List (List UInt8) → Bool
  | _, [] => true
  | f, s :: r => (nameB s && decide (f s = 0)) && newB (add f s) r
def adds : (List UInt8 → Nat) → List (List UInt8) → (List UInt8 → Nat)
  | f, [] => f
  | f, s :: r => adds (add f s) r
def Rgn.end' (r : Rgn) : Int := r.addr + r.size * 8
def Rgn.at' (r : Rgn) : Bool := decide (0 ≤ r.addr) && (r.addr.tmod 8 == 0) && decide (r.addr ≤ 49152 - r.size * 8)
def Rgn.apart (r q : Rgn) : Bool := decide (q.addr + q.size * 8 ≤ r.addr) || decide (r.addr + r.size * 8 ≤ q.addr)
def Rgn.apart' (q r : Rgn) : Bool := decide (q.addr + q.size * 8 ≤ r.addr) || decide (r.addr + r.size * 8 ≤ q.addr)
def rgsAt : List Rgn → List Rgn → Bool
  | _, [] => true
  | ds, r :: rs => r.at' && ds.all r.apart && rgsAt (ds ++ [r]) rs
theorem Rgn.few_iff (r : Rgn) : r.few = true ↔ 1 ≤ r.size ∧ r.size ≤ 512 := by simp [Rgn.few, fewB]
def Rgn.v (r : Rgn) : Value := .agg #[.string (str r.name), .int .i64 r.addr, .int .i64 r.size, .bool r.secret]
theorem bytesOf_any (r : Rgn) (hr : r.few = true) (w : World) : Calls Try.prog 61 #[r.v] w fun z w' => z = .returned (.int .i64 (r.size * 8)) ∧ Below w.heap.size w w' := by
  obtain ⟨h1, h2⟩ := r.few_iff.1 hr
  have hw : IntKind.i64.wrap (r.size * 8) = r.size * 8 := by simp [IntKind.wrap, IntKind.bits, IntKind.signed]; omega
  unfold Rgn.v
  go_enter Try.func61, Try.ntmps61
  go_wp2_with fail
  go_ret
  exact ⟨rfl, (Below.refl _ _).alloc (Nat.le_refl _) _⟩
theorem Row.pre {α : Type} {A : α → Nat → Nat → Prop} {k b : Nat} : ∀ (l r : List α) (o : Nat), Row A k (l ++ r) b o → Row A k l b o
  | [], _, _, _ => trivial
  | _ :: l, r, o, h => ⟨h.1, Row.pre l r (o + k) h.2⟩
theorem Rgn.at_iff (r : Rgn) (h : r.at' = true) : 0 ≤ r.addr ∧ r.addr ≤ 49152 - r.size * 8 := by
  simp only [Rgn.at', Bool.and_eq_true, decide_eq_true_eq] at h
  exact ⟨h.1.1, h.2⟩
set_option maxRecDepth 100000 in
set_option maxHeartbeats 12800000 in
theorem mustLie_any (l : List Rgn) (p : Option Addr) (c N : Nat) (w : World) (h : RowIn N (Rgn.At w) 4 l p) (hN : N ≤ w.heap.size) (hf : l.all Rgn.few = true) (hcap : l.length ≤ c) :
    Calls Try.prog 35 #[.slice p l.length c] w (Chk (ask (rgsAt [] l) 14) w) := by
      obtain ⟨b, o, hp, hb, ha⟩ := Row.start h
      have hm := h.1
      have HA := Lib.hid (And.intro ha hb)
      have HFew := Lib.hid hf
      have HBq := Lib.hid (Below.refl w.heap.size w)
      clear h hb ha hf
      go_enter Try.func35, Try.ntmps35
      go_wp2_with fail
      go_loopw [8] (fun i wr => ∃ (k : Nat) (ds r : List Rgn), i = .int .i64 k ∧ ds.length = k ∧ Hid (l = ds ++ r) ∧ k + r.length = l.length ∧ Hid (Row (Rgn.At w) 4 r b (o + k * 4)) ∧ Hid (Below w.heap.size w wr) ∧ Hid (rgsAt [] l = rgsAt ds r) ∧ Hid (∀ x ∈ ds, x.at' = true)) (fun i _ => l.length - (intOf i).toNat)
      case atStart => exact ⟨0, [], l, rfl, rfl, Lib.hid rfl, by omega, Lib.hid (by rw [Nat.zero_mul]; exact HA.out.1), HBq, Lib.hid rfl, Lib.hid (fun x hx => by cases hx)⟩
      case round =>
        obtain ⟨wo, rfl⟩ : ∃ wo : World, wo = wr := ⟨_, rfl⟩
        obtain ⟨k', ds, r, rfl, hdk, hds, hk', hr, hB, hE, hAt⟩ := hrel
        cases r with
        | nil =>
          simp only [List.length_nil] at hk'
          have hge' : ¬ k' < l.length := by omega
          have HOK := Lib.hid (show Chk (ask (rgsAt [] l) 14) w (.returned (.tuple #[])) wo from .ok (by rw [hE.out]; rfl) hB.out)
          go_wp2_with fail
          go_end0
          exact HOK.out
        | cons y r =>
          obtain ⟨hy, hr'⟩ := hr.out
          simp only [List.length_cons] at hk'
          have hlt' : k' < l.length := by omega
          rcases hp with h0 | rfl
          · omega
          obtain ⟨d0, d1, d2, d3⟩ := Rgn.At.of hy hB.out (by have := HA.out.2; omega)
          have HR := Lib.hid hr'
          have hyf : y.few = true := List.all_eq_true.1 HFew.out y (by rw [hds.out]; simp)
          have HBy := Lib.hid (bytesOf_any y hyf)
          obtain ⟨hy1, hy2⟩ := y.few_iff.1 hyf
          have hws : IntKind.i64.wrap (49152 - y.size * 8) = 49152 - y.size * 8 := by simp [IntKind.wrap, IntKind.bits, IntKind.signed]; omega
          obtain ⟨Wa, hWa, ka, hBa, hza⟩ := one_alloc wo (.cells #[.string (str y.name), .int .i64 y.addr, .int .i64 y.size, .bool y.secret] 58)
          have HBa := Lib.hid (And.intro (hB.out.trans (hBa.mono hB.out.size)) (show wo.heap.size < Wa.heap.size by omega))
          have HKa := Lib.hid ka
          have HWa := Lib.hid hWa
          have HNo := Lib.hid (fun (w' : World) (hf : (y.at' && ds.all y.apart) = false) (hBw : Below Wa.heap.size Wa w') => show Chk (ask (rgsAt [] l) 14) w (Pn 14) w' from Chk.no' (e := 14) (by rw [hE.out, rgsAt, hf]; rfl) (by decide) (HBa.out.1.trans (hBw.mono (by have := hB.out.size; omega))))
          unfold Pn at HNo
          unfold Rgn.v at HBy
          have a0 : Wa.cell? ⟨wo.heap.size, 0, none⟩ = some (.string (str y.name)) := cell_blk ka rfl
          have a1 : Wa.cell? ⟨wo.heap.size, 1, none⟩ = some (.int .i64 y.addr) := cell_blk ka rfl
          have a2 : Wa.cell? ⟨wo.heap.size, 2, none⟩ = some (.int .i64 y.size) := cell_blk ka rfl
          have a3 : Wa.cell? ⟨wo.heap.size, 3, none⟩ = some (.bool y.secret) := cell_blk ka rfl
          clear hy hr hr' hyf hWa ka hBa hza
          go_upto_region 3 with fail
          rw [HWa.out]
          clear d0 d1 d2 d3 HWa
          go_cut [] from 13 to 30 (fun wx => Hid (Below Wa.heap.size Wa wx) ∧ Hid (y.at' = true))
          case first =>
            have HAt' := Lib.hid (show (decide (0 ≤ y.addr) && (y.addr.tmod 8 == 0) && decide (y.addr ≤ 49152 - y.size * 8)) = y.at' from rfl)
            unfold Rgn.at' at HNo
            generalize e1 : decide (0 ≤ y.addr) = t1 at HNo HAt'
            generalize e2 : (y.addr.tmod 8 == 0) = t2 at HNo HAt'
            generalize e3 : decide (y.addr ≤ 49152 - y.size * 8) = t3 at HNo HAt'
            have HS : Below Wa.heap.size Wa Wa.drew := (Below.refl _ _).drew
            cases t1
            · refine wp_region_held_drew (S := fun W => Below Wa.heap.size Wa W ∧ W.cell? ⟨wo.heap.size, 0, none⟩ = some (.string (str y.name)) ∧ W.cell? ⟨wo.heap.size, 1, none⟩ = some (.int .i64 y.addr) ∧ W.cell? ⟨wo.heap.size, 2, none⟩ = some (.int .i64 y.size) ∧ W.cell? ⟨wo.heap.size, 3, none⟩ = some (.bool y.secret)) (by kernel_rfl) ?_ (fun hHeld => ?_)
              · exact ⟨HS, (HS.cell (p := ⟨wo.heap.size, 0, none⟩) HBa.out.2).trans a0, (HS.cell (p := ⟨wo.heap.size, 1, none⟩) HBa.out.2).trans a1, (HS.cell (p := ⟨wo.heap.size, 2, none⟩) HBa.out.2).trans a2, (HS.cell (p := ⟨wo.heap.size, 3, none⟩) HBa.out.2).trans a3⟩
              refine tk 0 ?_ rfl (.inl ⟨by rfl, ?_⟩) ?_
              rotate_left
              · (intro w hSw; (try dsimp only at hSw); go_simp; try with_reducible rfl)
              try simp only [Act.put, List.setIfInBounds_toArray, List.set_cons_zero, List.set_cons_succ]
              refine tk 1 ?_ rfl (.inl ⟨by rfl, ?_⟩) ?_
              rotate_left
              · (intro w hSw; (try dsimp only at hSw); go_simp; try with_reducible rfl)
              try simp only [Act.put, List.setIfInBounds_toArray, List.set_cons_zero, List.set_cons_succ]
              refine tk 2 ?_ rfl (.inl ⟨by rfl, ?_⟩) ?_
              rotate_left
              · (intro w hSw; (try dsimp only at hSw); go_simp; try with_reducible rfl)
              try simp only [Act.put, List.setIfInBounds_toArray, List.set_cons_zero, List.set_cons_succ]
              refine tk 3 ?_ rfl (.inl ⟨by rfl, ?_⟩) ?_
              rotate_left
              · (intro w hSw; (try dsimp only at hSw); go_simp; try with_reducible rfl)
              try simp only [Act.put, List.setIfInBounds_toArray, List.set_cons_zero, List.set_cons_succ]
              refine tk 4 undef rfl (.inr ⟨by rfl, rfl⟩) ?_
              try simp only [Act.put, List.setIfInBounds_toArray, List.set_cons_zero, List.set_cons_succ]
              refine tk 5 undef rfl (.inr ⟨by rfl, rfl⟩) ?_
              try simp only [Act.put, List.setIfInBounds_toArray, List.set_cons_zero, List.set_cons_succ]
              refine tk 6 undef rfl (.inr ⟨by rfl, rfl⟩) ?_
              try simp only [Act.put, List.setIfInBounds_toArray, List.set_cons_zero, List.set_cons_succ]
              refine tk 7 undef rfl (.inr ⟨by rfl, rfl⟩) ?_
              try simp only [Act.put, List.setIfInBounds_toArray, List.set_cons_zero, List.set_cons_succ]
              refine tk 8 ?_ rfl (.inl ⟨by rfl, ?_⟩) ?_
              rotate_left
              · (intro w hSw; (try dsimp only at hSw); go_simp; try with_reducible rfl)
              try simp only [Act.put, List.setIfInBounds_toArray, List.set_cons_zero, List.set_cons_succ]
              refine tk 9 ?_ rfl (.inl ⟨by rfl, ?_⟩) ?_
              rotate_left
              · (intro w hSw; (try dsimp only at hSw); go_simp; try with_reducible rfl)
              try simp only [Act.put, List.setIfInBounds_toArray, List.set_cons_zero, List.set_cons_succ]
              refine tk 10 undef rfl (.inr ⟨by rfl, rfl⟩) ?_
              try simp only [Act.put, List.setIfInBounds_toArray, List.set_cons_zero, List.set_cons_succ]
              refine tk 11 undef rfl (.inr ⟨by rfl, rfl⟩) ?_
              try simp only [Act.put, List.setIfInBounds_toArray, List.set_cons_zero, List.set_cons_succ]
              refine tk 12 undef rfl (.inr ⟨by rfl, rfl⟩) ?_
              try simp only [Act.put, List.setIfInBounds_toArray, List.set_cons_zero, List.set_cons_succ]
              refine tk 13 undef rfl (.inr ⟨by rfl, rfl⟩) ?_
              try simp only [Act.put, List.setIfInBounds_toArray, List.set_cons_zero, List.set_cons_succ]
              refine tk 14 undef rfl (.inr ⟨by rfl, rfl⟩) ?_
              try simp only [Act.put, List.setIfInBounds_toArray, List.set_cons_zero, List.set_cons_succ]
              refine tk 15 undef rfl (.inr ⟨by rfl, rfl⟩) ?_
              try simp only [Act.put, List.setIfInBounds_toArray, List.set_cons_zero, List.set_cons_succ]
              refine tk 16 ?_ rfl (.inl ⟨by rfl, ?_⟩) ?_
              rotate_left
              · (intro w hSw; (try dsimp only at hSw); go_simp; try with_reducible rfl)
              try simp only [Act.put, List.setIfInBounds_toArray, List.set_cons_zero, List.set_cons_succ]
              refine wpAnyH_ready (rs := [17]) (by kernel_rfl) (by simp) ?_
              refine rdy rfl (fun K hK => ?_) AllReadyH.nil
              go_simp
              refine (must_no 14 _).mono ?_
              rintro e w' ⟨rfl, rfl⟩
              unfold Pn
              exact ⟨rfl, HNo.out _ rfl HS⟩
            cases t2
            · refine wp_region_held_drew (S := fun W => Below Wa.heap.size Wa W ∧ W.cell? ⟨wo.heap.size, 0, none⟩ = some (.string (str y.name)) ∧ W.cell? ⟨wo.heap.size, 1, none⟩ = some (.int .i64 y.addr) ∧ W.cell? ⟨wo.heap.size, 2, none⟩ = some (.int .i64 y.size) ∧ W.cell? ⟨wo.heap.size, 3, none⟩ = some (.bool y.secret)) (by kernel_rfl) ?_ (fun hHeld => ?_)
              · exact ⟨HS, (HS.cell (p := ⟨wo.heap.size, 0, none⟩) HBa.out.2).trans a0, (HS.cell (p := ⟨wo.heap.size, 1, none⟩) HBa.out.2).trans a1, (HS.cell (p := ⟨wo.heap.size, 2, none⟩) HBa.out.2).trans a2, (HS.cell (p := ⟨wo.heap.size, 3, none⟩) HBa.out.2).trans a3⟩
              refine tk 0 ?_ rfl (.inl ⟨by rfl, ?_⟩) ?_
              rotate_left
              · (intro w hSw; (try dsimp only at hSw); go_simp; try with_reducible rfl)
              try simp only [Act.put, List.setIfInBounds_toArray, List.set_cons_zero, List.set_cons_succ]
              refine tk 1 ?_ rfl (.inl ⟨by rfl, ?_⟩) ?_
              rotate_left
              · (intro w hSw; (try dsimp only at hSw); go_simp; try with_reducible rfl)
              try simp only [Act.put, List.setIfInBounds_toArray, List.set_cons_zero, List.set_cons_succ]
              refine tk 2 ?_ rfl (.inl ⟨by rfl, ?_⟩) ?_
              rotate_left
              · (intro w hSw; (try dsimp only at hSw); go_simp; try with_reducible rfl)
              try simp only [Act.put, List.setIfInBounds_toArray, List.set_cons_zero, List.set_cons_succ]
              refine tk 3 ?_ rfl (.inl ⟨by rfl, ?_⟩) ?_
              rotate_left
              · (intro w hSw; (try dsimp only at hSw); go_simp; try with_reducible rfl)
              try simp only [Act.put, List.setIfInBounds_toArray, List.set_cons_zero, List.set_cons_succ]
              refine tk 4 ?_ rfl (.inl ⟨by rfl, ?_⟩) ?_
              rotate_left
              · (intro w hSw; (try dsimp only at hSw); go_simp; try with_reducible rfl)
              try simp only [Act.put, List.setIfInBounds_toArray, List.set_cons_zero, List.set_cons_succ]
              refine tk 5 ?_ rfl (.inl ⟨by rfl, ?_⟩) ?_
              rotate_left
              · (intro w hSw; (try dsimp only at hSw); go_simp; try with_reducible rfl)
              try simp only [Act.put, List.setIfInBounds_toArray, List.set_cons_zero, List.set_cons_succ]
              refine tk 6 ?_ rfl (.inl ⟨by rfl, ?_⟩) ?_
              rotate_left
              · (intro w hSw; (try dsimp only at hSw); go_simp; try with_reducible rfl)
              try simp only [Act.put, List.setIfInBounds_toArray, List.set_cons_zero, List.set_cons_succ]
              refine tk 7 ?_ rfl (.inl ⟨by rfl, ?_⟩) ?_
              rotate_left
              · (intro w hSw; (try dsimp only at hSw); go_simp; try with_reducible rfl)
              try simp only [Act.put, List.setIfInBounds_toArray, List.set_cons_zero, List.set_cons_succ]
              refine tk 8 ?_ rfl (.inl ⟨by rfl, ?_⟩) ?_
              rotate_left
              · (intro w hSw; (try dsimp only at hSw); go_simp; try with_reducible rfl)
              try simp only [Act.put, List.setIfInBounds_toArray, List.set_cons_zero, List.set_cons_succ]
              refine tk 9 ?_ rfl (.inl ⟨by rfl, ?_⟩) ?_
              rotate_left
              · (intro w hSw; (try dsimp only at hSw); go_simp; try with_reducible rfl)
              try simp only [Act.put, List.setIfInBounds_toArray, List.set_cons_zero, List.set_cons_succ]
              refine tk 10 undef rfl (.inr ⟨by rfl, rfl⟩) ?_
              try simp only [Act.put, List.setIfInBounds_toArray, List.set_cons_zero, List.set_cons_succ]
              refine tk 11 undef rfl (.inr ⟨by rfl, rfl⟩) ?_
              try simp only [Act.put, List.setIfInBounds_toArray, List.set_cons_zero, List.set_cons_succ]
              refine tk 12 undef rfl (.inr ⟨by rfl, rfl⟩) ?_
              try simp only [Act.put, List.setIfInBounds_toArray, List.set_cons_zero, List.set_cons_succ]
              refine tk 13 undef rfl (.inr ⟨by rfl, rfl⟩) ?_
              try simp only [Act.put, List.setIfInBounds_toArray, List.set_cons_zero, List.set_cons_succ]
              refine tk 14 undef rfl (.inr ⟨by rfl, rfl⟩) ?_
              try simp only [Act.put, List.setIfInBounds_toArray, List.set_cons_zero, List.set_cons_succ]
              refine tk 15 undef rfl (.inr ⟨by rfl, rfl⟩) ?_
              try simp only [Act.put, List.setIfInBounds_toArray, List.set_cons_zero, List.set_cons_succ]
              refine tk 16 ?_ rfl (.inl ⟨by rfl, ?_⟩) ?_
              rotate_left
              · (intro w hSw; (try dsimp only at hSw); go_simp; try with_reducible rfl)
              try simp only [Act.put, List.setIfInBounds_toArray, List.set_cons_zero, List.set_cons_succ]
              refine wpAnyH_ready (rs := [17]) (by kernel_rfl) (by simp) ?_
              refine rdy rfl (fun K hK => ?_) AllReadyH.nil
              go_simp
              refine (must_no 14 _).mono ?_
              rintro e w' ⟨rfl, rfl⟩
              unfold Pn
              exact ⟨rfl, HNo.out _ rfl HS⟩
            refine wp_region_held_drew (S := fun W => Below Wa.heap.size Wa W ∧ W.cell? ⟨wo.heap.size, 0, none⟩ = some (.string (str y.name)) ∧ W.cell? ⟨wo.heap.size, 1, none⟩ = some (.int .i64 y.addr) ∧ W.cell? ⟨wo.heap.size, 2, none⟩ = some (.int .i64 y.size) ∧ W.cell? ⟨wo.heap.size, 3, none⟩ = some (.bool y.secret)) (by kernel_rfl) ?_ (fun hHeld => ?_)
            · exact ⟨HS, (HS.cell (p := ⟨wo.heap.size, 0, none⟩) HBa.out.2).trans a0, (HS.cell (p := ⟨wo.heap.size, 1, none⟩) HBa.out.2).trans a1, (HS.cell (p := ⟨wo.heap.size, 2, none⟩) HBa.out.2).trans a2, (HS.cell (p := ⟨wo.heap.size, 3, none⟩) HBa.out.2).trans a3⟩
            refine tk 0 ?_ rfl (.inl ⟨by rfl, ?_⟩) ?_
            rotate_left
            · (intro w hSw; (try dsimp only at hSw); go_simp; try with_reducible rfl)
            try simp only [Act.put, List.setIfInBounds_toArray, List.set_cons_zero, List.set_cons_succ]
            refine tk 1 ?_ rfl (.inl ⟨by rfl, ?_⟩) ?_
            rotate_left
            · (intro w hSw; (try dsimp only at hSw); go_simp; try with_reducible rfl)
            try simp only [Act.put, List.setIfInBounds_toArray, List.set_cons_zero, List.set_cons_succ]
            refine tk 2 ?_ rfl (.inl ⟨by rfl, ?_⟩) ?_
            rotate_left
            · (intro w hSw; (try dsimp only at hSw); go_simp; try with_reducible rfl)
            try simp only [Act.put, List.setIfInBounds_toArray, List.set_cons_zero, List.set_cons_succ]
            refine tk 3 ?_ rfl (.inl ⟨by rfl, ?_⟩) ?_
            rotate_left
            · (intro w hSw; (try dsimp only at hSw); go_simp; try with_reducible rfl)
            try simp only [Act.put, List.setIfInBounds_toArray, List.set_cons_zero, List.set_cons_succ]
            refine tk 4 ?_ rfl (.inl ⟨by rfl, ?_⟩) ?_
            rotate_left
            · (intro w hSw; (try dsimp only at hSw); go_simp; try with_reducible rfl)
            try simp only [Act.put, List.setIfInBounds_toArray, List.set_cons_zero, List.set_cons_succ]
            refine tk 5 ?_ rfl (.inl ⟨by rfl, ?_⟩) ?_
            rotate_left
            · (intro w hSw; (try dsimp only at hSw); go_simp; try with_reducible rfl)
            try simp only [Act.put, List.setIfInBounds_toArray, List.set_cons_zero, List.set_cons_succ]
            refine tk 6 ?_ rfl (.inl ⟨by rfl, ?_⟩) ?_
            rotate_left
            · (intro w hSw; (try dsimp only at hSw); go_simp; try with_reducible rfl)
            try simp only [Act.put, List.setIfInBounds_toArray, List.set_cons_zero, List.set_cons_succ]
            refine tk 7 ?_ rfl (.inl ⟨by rfl, ?_⟩) ?_
            rotate_left
            · (intro w hSw; (try dsimp only at hSw); go_simp; try with_reducible rfl)
            try simp only [Act.put, List.setIfInBounds_toArray, List.set_cons_zero, List.set_cons_succ]
            refine tk 8 ?_ rfl (.inl ⟨by rfl, ?_⟩) ?_
            rotate_left
            · (intro w hSw; (try dsimp only at hSw); go_simp; try with_reducible rfl)
            try simp only [Act.put, List.setIfInBounds_toArray, List.set_cons_zero, List.set_cons_succ]
            refine tk 9 ?_ rfl (.inl ⟨by rfl, ?_⟩) ?_
            rotate_left
            · (intro w hSw; (try dsimp only at hSw); go_simp; try with_reducible rfl)
            try simp only [Act.put, List.setIfInBounds_toArray, List.set_cons_zero, List.set_cons_succ]
            refine tk 10 ?_ rfl (.inl ⟨by rfl, ?_⟩) ?_
            rotate_left
            · (intro w hSw; (try dsimp only at hSw); go_simp; try with_reducible rfl)
            try simp only [Act.put, List.setIfInBounds_toArray, List.set_cons_zero, List.set_cons_succ]
            refine tk 11 ?_ rfl (.inl ⟨by rfl, ?_⟩) ?_
            rotate_left
            · (intro w hSw; (try dsimp only at hSw); go_simp; try with_reducible rfl)
            try simp only [Act.put, List.setIfInBounds_toArray, List.set_cons_zero, List.set_cons_succ]
            refine tk 12 ?_ rfl (.inl ⟨by rfl, ?_⟩) ?_
            rotate_left
            · (intro w hSw; (try dsimp only at hSw); go_simp; try with_reducible rfl)
            try simp only [Act.put, List.setIfInBounds_toArray, List.set_cons_zero, List.set_cons_succ]
            refine wpAnyH_ready (rs := [13]) (by kernel_rfl) (by simp) ?_
            refine rdy rfl (fun K hK => ?_) AllReadyH.nil
            go_simp
            refine (HBy.out _).mono ?_
            rintro z w2 ⟨rfl, hB2⟩
            replace HS := HS.trans (hB2.mono HS.size)
            refine hK.out _ _ ?_ (fun hHeld => ?_)
            · exact ⟨HS, (HS.cell (p := ⟨wo.heap.size, 0, none⟩) HBa.out.2).trans a0, (HS.cell (p := ⟨wo.heap.size, 1, none⟩) HBa.out.2).trans a1, (HS.cell (p := ⟨wo.heap.size, 2, none⟩) HBa.out.2).trans a2, (HS.cell (p := ⟨wo.heap.size, 3, none⟩) HBa.out.2).trans a3⟩
            clear hK K
            try simp only [Act.put, List.setIfInBounds_toArray, List.set_cons_zero, List.set_cons_succ]
            refine tk 14 ?_ rfl (.inl ⟨by rfl, ?_⟩) ?_
            rotate_left
            · (intro w hSw; (try dsimp only at hSw); go_simp; try with_reducible rfl)
            try simp only [Act.put, List.setIfInBounds_toArray, List.set_cons_zero, List.set_cons_succ]
            refine tk 15 ?_ rfl (.inl ⟨by rfl, ?_⟩) ?_
            rotate_left
            · (intro w hSw; (try dsimp only at hSw); go_simp; try with_reducible rfl)
            try simp only [Act.put, List.setIfInBounds_toArray, List.set_cons_zero, List.set_cons_succ]
            refine tk 16 ?_ rfl (.inl ⟨by rfl, ?_⟩) ?_
            rotate_left
            · (intro w hSw; (try dsimp only at hSw); go_simp; try with_reducible rfl)
            try simp only [Act.put, List.setIfInBounds_toArray, List.set_cons_zero, List.set_cons_succ]
            cases t3
            · refine wpAnyH_ready (rs := [17]) (by kernel_rfl) (by simp) ?_
              refine rdy rfl (fun K hK => ?_) AllReadyH.nil
              go_simp
              refine (must_no 14 _).mono ?_
              rintro e w' ⟨rfl, rfl⟩
              unfold Pn
              exact ⟨rfl, HNo.out _ rfl HS⟩
            have HT := Lib.hid HAt'.out.symm
            refine wpAnyH_ready (rs := [17]) (by kernel_rfl) (by simp) ?_
            refine rdy rfl (fun K hK => ?_) AllReadyH.nil
            go_simp
            refine (must_yes 14 _).mono ?_
            rintro e w' ⟨rfl, hw⟩
            subst hw
            refine hK.out _ _ ?_ (fun hHeld => ?_)
            · exact ⟨HS, (HS.cell (p := ⟨wo.heap.size, 0, none⟩) HBa.out.2).trans a0, (HS.cell (p := ⟨wo.heap.size, 1, none⟩) HBa.out.2).trans a1, (HS.cell (p := ⟨wo.heap.size, 2, none⟩) HBa.out.2).trans a2, (HS.cell (p := ⟨wo.heap.size, 3, none⟩) HBa.out.2).trans a3⟩
            clear hK K
            try simp only [Act.put, List.setIfInBounds_toArray, List.set_cons_zero, List.set_cons_succ]
            refine wpAnyH_done (by kernel_rfl) ?_ _
            go_wp2_with fail
            go_meet
            exact ⟨Lib.hid HS, HT⟩
          case rest =>
            obtain ⟨hBc, hat⟩ := hcut
            obtain ⟨hy3, hy4⟩ := y.at_iff hat.out
            have hkc : k' ≤ c := by omega
            clear a0 a1 a2 a3 HBy
            go_wp2_with fail
            obtain ⟨wz, rfl⟩ : ∃ wz : World, wz = wc := ⟨_, rfl⟩
            go_loopw [35] (fun i wr => ∃ (j : Nat) (d1 r1 : List Rgn), i = .int .i64 j ∧ j + r1.length = k' ∧ Hid (ds = d1 ++ r1) ∧ Hid (Row (Rgn.At w) 4 r1 b (o + j * 4)) ∧ Hid (Below Wa.heap.size Wa wr) ∧ Hid (r1.all y.apart = ds.all y.apart)) (fun i _ => k' - (intOf i).toNat)
            case atStart => exact ⟨0, [], ds, rfl, by omega, Lib.hid rfl, Lib.hid (by rw [Nat.zero_mul]; exact Row.pre ds (y :: r) o (by rw [← hds.out]; exact HA.out.1)), hBc, Lib.hid rfl⟩
            case round =>
              obtain ⟨wi, rfl⟩ : ∃ wi : World, wi = wr := ⟨_, rfl⟩
              obtain ⟨j, d1, r1, rfl, hj, hd1, hr1, hBi, hE1⟩ := hrel
              cases r1 with
              | nil =>
                simp only [List.length_nil] at hj
                have hgj : ¬ j < k' := by omega
                have HE2 := Lib.hid (show rgsAt [] l = rgsAt (ds ++ [y]) r by rw [hE.out, rgsAt, hat.out, ← hE1.out]; rfl)
                clear hE1 hE
                go_wp2_with fail
                go_roundw
                case rel => exact ⟨k' + 1, ds ++ [y], r, by go_num, by simp; omega, Lib.hid (by rw [hds.out]; simp), by omega, Lib.hid (by rw [show o + (k' + 1) * 4 = o + k' * 4 + 4 by omega]; exact HR.out), Lib.hid (HBa.out.1.trans (hBi.out.mono (by have := hB.out.size; have := HBa.out.2; omega))), HE2, Lib.hid (fun x hx => by rcases List.mem_append.1 hx with h | h; exact hAt.out x h; cases List.mem_singleton.1 h; exact hat.out)⟩
                case measure => simp [intOf]; omega
              | cons q r1 =>
                obtain ⟨hq, hr1'⟩ := hr1.out
                simp only [List.length_cons] at hj
                have hlj : j < k' := by omega
                have hqm : q ∈ ds := by rw [hd1.out]; simp
                have hqf : q.few = true := List.all_eq_true.1 HFew.out q (by rw [hds.out]; exact List.mem_append_left _ hqm)
                obtain ⟨hq1, hq2⟩ := q.few_iff.1 hqf
                obtain ⟨hq3, hq4⟩ := q.at_iff (hAt.out q hqm)
                have hba : b < w.heap.size := by have := HA.out.2; omega
                obtain ⟨d0, d1', d2, d3⟩ := Rgn.At.of hq (HBa.out.1.trans (hBi.out.mono (by have := hB.out.size; have := HBa.out.2; omega))) hba
                have HR1 := Lib.hid hr1'
                have HBq := Lib.hid (bytesOf_any q hqf)
                have HBy := Lib.hid (bytesOf_any y (List.all_eq_true.1 HFew.out y (by rw [hds.out]; simp)))
                have hwq : IntKind.i64.wrap (q.addr + q.size * 8) = q.addr + q.size * 8 := by simp [IntKind.wrap, IntKind.bits, IntKind.signed]; omega
                have hwy : IntKind.i64.wrap (y.addr + y.size * 8) = y.addr + y.size * 8 := by simp [IntKind.wrap, IntKind.bits, IntKind.signed]; omega
                obtain ⟨Wb, hWb, kb, hBb, hzb⟩ := one_alloc wi (.cells #[.string (str q.name), .int .i64 q.addr, .int .i64 q.size, .bool q.secret] 58)
                have HBb := Lib.hid (And.intro (hBi.out.trans (hBb.mono hBi.out.size)) (show wi.heap.size < Wb.heap.size by omega))
                have HWb := Lib.hid hWb
                have HNo1 := Lib.hid (fun (w' : World) (hf : q.apart' y = false) (hBw : Below Wb.heap.size Wb w') => HNo.out w' (by
                  have : ds.all y.apart = false := by rw [← hE1.out, List.all_cons, show y.apart q = false from hf, Bool.false_and]
                  rw [this, Bool.and_false]) (HBb.out.1.trans (hBw.mono (by have := hBi.out.size; have := HBb.out.2; omega))))
                have ky := (HBb.out.1.block _ HBa.out.2).trans HKa.out
                have hlt2 : wo.heap.size < Wb.heap.size := Nat.lt_of_lt_of_le HBa.out.2 HBb.out.1.size
                have a0 : Wb.cell? ⟨wo.heap.size, 0, none⟩ = some (.string (str y.name)) := cell_blk ky rfl
                have a1 : Wb.cell? ⟨wo.heap.size, 1, none⟩ = some (.int .i64 y.addr) := cell_blk ky rfl
                have a2 : Wb.cell? ⟨wo.heap.size, 2, none⟩ = some (.int .i64 y.size) := cell_blk ky rfl
                have a3 : Wb.cell? ⟨wo.heap.size, 3, none⟩ = some (.bool y.secret) := cell_blk ky rfl
                have b0 : Wb.cell? ⟨wi.heap.size, 0, none⟩ = some (.string (str q.name)) := cell_blk kb rfl
                have b1 : Wb.cell? ⟨wi.heap.size, 1, none⟩ = some (.int .i64 q.addr) := cell_blk kb rfl
                have b2 : Wb.cell? ⟨wi.heap.size, 2, none⟩ = some (.int .i64 q.size) := cell_blk kb rfl
                have b3 : Wb.cell? ⟨wi.heap.size, 3, none⟩ = some (.bool q.secret) := cell_blk kb rfl
                have HE2 := Lib.hid hE1.out
                unfold Rgn.v at HBq HBy
                unfold Rgn.apart' at HNo1
                clear hq hr1 hr1' hqf hWb kb hBb hzb ky hE1
                go_upto_region 7 with fail
                rw [HWb.out]
                clear d0 d1' d2 d3 HWb
                have HAp := Lib.hid (show (decide (q.addr + q.size * 8 ≤ y.addr) || decide (y.addr + y.size * 8 ≤ q.addr)) = q.apart' y from rfl)
                generalize e1 : decide (q.addr + q.size * 8 ≤ y.addr) = t1 at HNo1 HAp
                generalize e2 : decide (y.addr + y.size * 8 ≤ q.addr) = t2 at HNo1 HAp
                have HS : Below Wb.heap.size Wb Wb.drew := (Below.refl _ _).drew
                refine wp_region_held_drew (S := fun W => Below Wb.heap.size Wb W ∧ W.cell? ⟨wo.heap.size, 0, none⟩ = some (.string (str y.name)) ∧ W.cell? ⟨wo.heap.size, 1, none⟩ = some (.int .i64 y.addr) ∧ W.cell? ⟨wo.heap.size, 2, none⟩ = some (.int .i64 y.size) ∧ W.cell? ⟨wo.heap.size, 3, none⟩ = some (.bool y.secret) ∧ W.cell? ⟨wi.heap.size, 0, none⟩ = some (.string (str q.name)) ∧ W.cell? ⟨wi.heap.size, 1, none⟩ = some (.int .i64 q.addr) ∧ W.cell? ⟨wi.heap.size, 2, none⟩ = some (.int .i64 q.size) ∧ W.cell? ⟨wi.heap.size, 3, none⟩ = some (.bool q.secret)) (by kernel_rfl) ?_ (fun hHeld => ?_)
                · exact ⟨HS, (HS.cell (p := ⟨wo.heap.size, 0, none⟩) hlt2).trans a0, (HS.cell (p := ⟨wo.heap.size, 1, none⟩) hlt2).trans a1, (HS.cell (p := ⟨wo.heap.size, 2, none⟩) hlt2).trans a2, (HS.cell (p := ⟨wo.heap.size, 3, none⟩) hlt2).trans a3, (HS.cell (p := ⟨wi.heap.size, 0, none⟩) HBb.out.2).trans b0, (HS.cell (p := ⟨wi.heap.size, 1, none⟩) HBb.out.2).trans b1, (HS.cell (p := ⟨wi.heap.size, 2, none⟩) HBb.out.2).trans b2, (HS.cell (p := ⟨wi.heap.size, 3, none⟩) HBb.out.2).trans b3⟩
                refine tk 0 ?_ rfl (.inl ⟨by rfl, ?_⟩) ?_
                rotate_left
                · (intro w hSw; (try dsimp only at hSw); go_simp; try with_reducible rfl)
                try simp only [Act.put, List.setIfInBounds_toArray, List.set_cons_zero, List.set_cons_succ]
                refine tk 1 ?_ rfl (.inl ⟨by rfl, ?_⟩) ?_
                rotate_left
                · (intro w hSw; (try dsimp only at hSw); go_simp; try with_reducible rfl)
                try simp only [Act.put, List.setIfInBounds_toArray, List.set_cons_zero, List.set_cons_succ]
                refine tk 2 ?_ rfl (.inl ⟨by rfl, ?_⟩) ?_
                rotate_left
                · (intro w hSw; (try dsimp only at hSw); go_simp; try with_reducible rfl)
                try simp only [Act.put, List.setIfInBounds_toArray, List.set_cons_zero, List.set_cons_succ]
                refine tk 3 ?_ rfl (.inl ⟨by rfl, ?_⟩) ?_
                rotate_left
                · (intro w hSw; (try dsimp only at hSw); go_simp; try with_reducible rfl)
                try simp only [Act.put, List.setIfInBounds_toArray, List.set_cons_zero, List.set_cons_succ]
                refine tk 4 ?_ rfl (.inl ⟨by rfl, ?_⟩) ?_
                rotate_left
                · (intro w hSw; (try dsimp only at hSw); go_simp; try with_reducible rfl)
                try simp only [Act.put, List.setIfInBounds_toArray, List.set_cons_zero, List.set_cons_succ]
                refine wpAnyH_ready (rs := [5]) (by kernel_rfl) (by simp) ?_
                refine rdy rfl (fun K hK => ?_) AllReadyH.nil
                go_simp
                refine (HBq.out _).mono ?_
                rintro z w2 ⟨rfl, hB2⟩
                replace HS := HS.trans (hB2.mono HS.size)
                refine hK.out _ _ ?_ (fun hHeld => ?_)
                · exact ⟨HS, (HS.cell (p := ⟨wo.heap.size, 0, none⟩) hlt2).trans a0, (HS.cell (p := ⟨wo.heap.size, 1, none⟩) hlt2).trans a1, (HS.cell (p := ⟨wo.heap.size, 2, none⟩) hlt2).trans a2, (HS.cell (p := ⟨wo.heap.size, 3, none⟩) hlt2).trans a3, (HS.cell (p := ⟨wi.heap.size, 0, none⟩) HBb.out.2).trans b0, (HS.cell (p := ⟨wi.heap.size, 1, none⟩) HBb.out.2).trans b1, (HS.cell (p := ⟨wi.heap.size, 2, none⟩) HBb.out.2).trans b2, (HS.cell (p := ⟨wi.heap.size, 3, none⟩) HBb.out.2).trans b3⟩
                clear hK K
                try simp only [Act.put, List.setIfInBounds_toArray, List.set_cons_zero, List.set_cons_succ]
                refine tk 6 ?_ rfl (.inl ⟨by rfl, ?_⟩) ?_
                rotate_left
                · (intro w hSw; (try dsimp only at hSw); go_simp; try with_reducible rfl)
                try simp only [Act.put, List.setIfInBounds_toArray, List.set_cons_zero, List.set_cons_succ]
                refine tk 7 ?_ rfl (.inl ⟨by rfl, ?_⟩) ?_
                rotate_left
                · (intro w hSw; (try dsimp only at hSw); go_simp; try with_reducible rfl)
                try simp only [Act.put, List.setIfInBounds_toArray, List.set_cons_zero, List.set_cons_succ]
                refine tk 8 ?_ rfl (.inl ⟨by rfl, ?_⟩) ?_
                rotate_left
                · (intro w hSw; (try dsimp only at hSw); go_simp; try with_reducible rfl)
                try simp only [Act.put, List.setIfInBounds_toArray, List.set_cons_zero, List.set_cons_succ]
                cases t1
                rotate_left
                · refine tk 9 undef rfl (.inr ⟨by rfl, rfl⟩) ?_
                  try simp only [Act.put, List.setIfInBounds_toArray, List.set_cons_zero, List.set_cons_succ]
                  refine tk 10 undef rfl (.inr ⟨by rfl, rfl⟩) ?_
                  try simp only [Act.put, List.setIfInBounds_toArray, List.set_cons_zero, List.set_cons_succ]
                  refine tk 11 undef rfl (.inr ⟨by rfl, rfl⟩) ?_
                  try simp only [Act.put, List.setIfInBounds_toArray, List.set_cons_zero, List.set_cons_succ]
                  refine tk 12 undef rfl (.inr ⟨by rfl, rfl⟩) ?_
                  try simp only [Act.put, List.setIfInBounds_toArray, List.set_cons_zero, List.set_cons_succ]
                  refine tk 13 undef rfl (.inr ⟨by rfl, rfl⟩) ?_
                  try simp only [Act.put, List.setIfInBounds_toArray, List.set_cons_zero, List.set_cons_succ]
                  refine tk 14 undef rfl (.inr ⟨by rfl, rfl⟩) ?_
                  try simp only [Act.put, List.setIfInBounds_toArray, List.set_cons_zero, List.set_cons_succ]
                  refine tk 15 undef rfl (.inr ⟨by rfl, rfl⟩) ?_
                  try simp only [Act.put, List.setIfInBounds_toArray, List.set_cons_zero, List.set_cons_succ]
                  refine tk 16 undef rfl (.inr ⟨by rfl, rfl⟩) ?_
                  try simp only [Act.put, List.setIfInBounds_toArray, List.set_cons_zero, List.set_cons_succ]
                  refine tk 17 ?_ rfl (.inl ⟨by rfl, ?_⟩) ?_
                  rotate_left
                  · (intro w hSw; (try dsimp only at hSw); go_simp; try with_reducible rfl)
                  try simp only [Act.put, List.setIfInBounds_toArray, List.set_cons_zero, List.set_cons_succ]
                  have HT := Lib.hid HAp.out.symm
                  refine wpAnyH_ready (rs := [18]) (by kernel_rfl) (by simp) ?_
                  refine rdy rfl (fun K hK => ?_) AllReadyH.nil
                  go_simp
                  refine (must_yes 14 _).mono ?_
                  rintro e w' ⟨rfl, hw⟩
                  subst hw
                  refine hK.out _ _ ?_ (fun hHeld => ?_)
                  · exact ⟨HS, (HS.cell (p := ⟨wo.heap.size, 0, none⟩) hlt2).trans a0, (HS.cell (p := ⟨wo.heap.size, 1, none⟩) hlt2).trans a1, (HS.cell (p := ⟨wo.heap.size, 2, none⟩) hlt2).trans a2, (HS.cell (p := ⟨wo.heap.size, 3, none⟩) hlt2).trans a3, (HS.cell (p := ⟨wi.heap.size, 0, none⟩) HBb.out.2).trans b0, (HS.cell (p := ⟨wi.heap.size, 1, none⟩) HBb.out.2).trans b1, (HS.cell (p := ⟨wi.heap.size, 2, none⟩) HBb.out.2).trans b2, (HS.cell (p := ⟨wi.heap.size, 3, none⟩) HBb.out.2).trans b3⟩
                  clear hK K
                  try simp only [Act.put, List.setIfInBounds_toArray, List.set_cons_zero, List.set_cons_succ]
                  refine wpAnyH_done (by kernel_rfl) ?_ _
                  have HBd := Lib.hid HS
                  clear a0 a1 a2 a3 b0 b1 b2 b3
                  go_wp2_with fail
                  refine ⟨⟨j + 1, d1 ++ [q], r1, by go_num, by omega, Lib.hid (by rw [hd1.out]; simp), Lib.hid (by rw [show o + (j + 1) * 4 = o + j * 4 + 4 by omega]; exact HR1.out), Lib.hid (HBb.out.1.trans (HBd.out.mono (by have := hBi.out.size; have := HBb.out.2; omega))), Lib.hid (by rw [← HE2.out, List.all_cons, show y.apart q = true from HT.out, Bool.true_and])⟩, ?_⟩
                  simp [intOf]; omega
                refine tk 9 ?_ rfl (.inl ⟨by rfl, ?_⟩) ?_
                rotate_left
                · (intro w hSw; (try dsimp only at hSw); go_simp; try with_reducible rfl)
                try simp only [Act.put, List.setIfInBounds_toArray, List.set_cons_zero, List.set_cons_succ]
                refine tk 10 ?_ rfl (.inl ⟨by rfl, ?_⟩) ?_
                rotate_left
                · (intro w hSw; (try dsimp only at hSw); go_simp; try with_reducible rfl)
                try simp only [Act.put, List.setIfInBounds_toArray, List.set_cons_zero, List.set_cons_succ]
                refine tk 11 ?_ rfl (.inl ⟨by rfl, ?_⟩) ?_
                rotate_left
                · (intro w hSw; (try dsimp only at hSw); go_simp; try with_reducible rfl)
                try simp only [Act.put, List.setIfInBounds_toArray, List.set_cons_zero, List.set_cons_succ]
                refine tk 12 ?_ rfl (.inl ⟨by rfl, ?_⟩) ?_
                rotate_left
                · (intro w hSw; (try dsimp only at hSw); go_simp; try with_reducible rfl)
                try simp only [Act.put, List.setIfInBounds_toArray, List.set_cons_zero, List.set_cons_succ]
                refine tk 13 ?_ rfl (.inl ⟨by rfl, ?_⟩) ?_
                rotate_left
                · (intro w hSw; (try dsimp only at hSw); go_simp; try with_reducible rfl)
                try simp only [Act.put, List.setIfInBounds_toArray, List.set_cons_zero, List.set_cons_succ]
                refine wpAnyH_ready (rs := [14]) (by kernel_rfl) (by simp) ?_
                refine rdy rfl (fun K hK => ?_) AllReadyH.nil
                go_simp
                refine (HBy.out _).mono ?_
                rintro z w3 ⟨rfl, hB3⟩
                replace HS := HS.trans (hB3.mono HS.size)
                refine hK.out _ _ ?_ (fun hHeld => ?_)
                · exact ⟨HS, (HS.cell (p := ⟨wo.heap.size, 0, none⟩) hlt2).trans a0, (HS.cell (p := ⟨wo.heap.size, 1, none⟩) hlt2).trans a1, (HS.cell (p := ⟨wo.heap.size, 2, none⟩) hlt2).trans a2, (HS.cell (p := ⟨wo.heap.size, 3, none⟩) hlt2).trans a3, (HS.cell (p := ⟨wi.heap.size, 0, none⟩) HBb.out.2).trans b0, (HS.cell (p := ⟨wi.heap.size, 1, none⟩) HBb.out.2).trans b1, (HS.cell (p := ⟨wi.heap.size, 2, none⟩) HBb.out.2).trans b2, (HS.cell (p := ⟨wi.heap.size, 3, none⟩) HBb.out.2).trans b3⟩
                clear hK K
                try simp only [Act.put, List.setIfInBounds_toArray, List.set_cons_zero, List.set_cons_succ]
                refine tk 15 ?_ rfl (.inl ⟨by rfl, ?_⟩) ?_
                rotate_left
                · (intro w hSw; (try dsimp only at hSw); go_simp; try with_reducible rfl)
                try simp only [Act.put, List.setIfInBounds_toArray, List.set_cons_zero, List.set_cons_succ]
                refine tk 16 ?_ rfl (.inl ⟨by rfl, ?_⟩) ?_
                rotate_left
                · (intro w hSw; (try dsimp only at hSw); go_simp; try with_reducible rfl)
                try simp only [Act.put, List.setIfInBounds_toArray, List.set_cons_zero, List.set_cons_succ]
                refine tk 17 ?_ rfl (.inl ⟨by rfl, ?_⟩) ?_
                rotate_left
                · (intro w hSw; (try dsimp only at hSw); go_simp; try with_reducible rfl)
                try simp only [Act.put, List.setIfInBounds_toArray, List.set_cons_zero, List.set_cons_succ]
                cases t2
                · refine wpAnyH_ready (rs := [18]) (by kernel_rfl) (by simp) ?_
                  refine rdy rfl (fun K hK => ?_) AllReadyH.nil
                  go_simp
                  refine (must_no 14 _).mono ?_
                  rintro e w' ⟨rfl, rfl⟩
                  unfold Pn
                  exact ⟨rfl, HNo1.out _ rfl HS⟩
                have HT := Lib.hid HAp.out.symm
                refine wpAnyH_ready (rs := [18]) (by kernel_rfl) (by simp) ?_
                refine rdy rfl (fun K hK => ?_) AllReadyH.nil
                go_simp
                refine (must_yes 14 _).mono ?_
                rintro e w' ⟨rfl, hw⟩
                subst hw
                refine hK.out _ _ ?_ (fun hHeld => ?_)
                · exact ⟨HS, (HS.cell (p := ⟨wo.heap.size, 0, none⟩) hlt2).trans a0, (HS.cell (p := ⟨wo.heap.size, 1, none⟩) hlt2).trans a1, (HS.cell (p := ⟨wo.heap.size, 2, none⟩) hlt2).trans a2, (HS.cell (p := ⟨wo.heap.size, 3, none⟩) hlt2).trans a3, (HS.cell (p := ⟨wi.heap.size, 0, none⟩) HBb.out.2).trans b0, (HS.cell (p := ⟨wi.heap.size, 1, none⟩) HBb.out.2).trans b1, (HS.cell (p := ⟨wi.heap.size, 2, none⟩) HBb.out.2).trans b2, (HS.cell (p := ⟨wi.heap.size, 3, none⟩) HBb.out.2).trans b3⟩
                clear hK K
                try simp only [Act.put, List.setIfInBounds_toArray, List.set_cons_zero, List.set_cons_succ]
                refine wpAnyH_done (by kernel_rfl) ?_ _
                have HBd := Lib.hid HS
                clear a0 a1 a2 a3 b0 b1 b2 b3
                go_wp2_with fail
                refine ⟨⟨j + 1, d1 ++ [q], r1, by go_num, by omega, Lib.hid (by rw [hd1.out]; simp), Lib.hid (by rw [show o + (j + 1) * 4 = o + j * 4 + 4 by omega]; exact HR1.out), Lib.hid (HBb.out.1.trans (HBd.out.mono (by have := hBi.out.size; have := HBb.out.2; omega))), Lib.hid (by rw [← HE2.out, List.all_cons, show y.apart q = true from HT.out, Bool.true_and])⟩, ?_⟩
                simp [intOf]; omega
end Go.Proofs.Ytnghehcjklkoeaa
