/- do: a word that is stored. -/
import Derived.Test.YtajjpaabkdgjbaaDD
import Derived.Test.YtajjpaabkdgjbaaBD
namespace Go.Proofs.Ytajjpaabkdgjbaa
open Go.RowKit

set_option maxRecDepth 100000 in
set_option maxHeartbeats 3200000 in
theorem do_store_yes (l : List Rg) (f bt : Nat → Nat) (B1 g1 B2 g2 : Nat) (s : Stp) (w : World) (hm : MemIs w B1 g1 l f) (hr : RefIs w B2 g2 l bt) (hd : g1 < B2 ∨ g2 < B1) (hok : l.all Rg.ok = true) (h1 : s.kind = 1) (hx : s.x < 18446744073709551616) (h0 : errW l s.addr = 0) :
    Calls Try.prog 37 #[.pointer (some ⟨g1, 0, none⟩), .pointer (some ⟨g2, 0, none⟩), .agg #[.int .i64 s.kind, .int .u64 (s.addr : Int), .int .u64 (s.x : Int)]] w
      fun e w' => e = .returned (.tuple #[.pointer (some ⟨g1, 0, none⟩), .bool true]) ∧ MemIs w' B1 g1 l (upd f (s.addr / 8) s.x) ∧ RefIs w' B2 g2 l (putN bt s.addr s.x 8) ∧ ∃ W1 W2, Below w.heap.size w W1 ∧ Agr g1 W1 W2 ∧ AgX B2 g2 W2 w' := by
  rw [h1]
  have HB1 := (Below.refl _ w).alloc (Nat.le_refl _) (.cells #[.int .i64 1, .int .u64 (s.addr : Int), .int .u64 (s.x : Int)] 78 (0, 0))
  have HM1 := Lib.hid ((hm.later HB1).later (Below.refl _ _).drew)
  have HR1 := Lib.hid ((hr.later HB1).later (Below.refl _ _).drew)
  have HC1 : Hid (((w.alloc (.cells #[.int .i64 1, .int .u64 (s.addr : Int), .int .u64 (s.x : Int)] 78 (0, 0))).drew.cell? ⟨w.heap.size, 1, none⟩ = some (.int .u64 (s.addr : Int))) ∧ (w.alloc (.cells #[.int .i64 1, .int .u64 (s.addr : Int), .int .u64 (s.x : Int)] 78 (0, 0))).drew.cell? ⟨w.heap.size, 2, none⟩ = some (.int .u64 (s.x : Int))) :=
    Lib.hid ⟨by simp [go_sem], by simp [go_sem]⟩
  have ha : s.addr < 18446744073709551616 := by have := errB_lt hok (errW_0 h0).2; omega
  have hg1 := hm.gt
  obtain ⟨_, _, hq1, hq2, hg2⟩ := hr.ptr
  have HS1 := Lib.hid (show w.heap.size < (w.alloc (.cells #[.int .i64 1, .int .u64 (s.addr : Int), .int .u64 (s.x : Int)] 78 (0, 0))).drew.heap.size by simp)
  have HB1 := Lib.hid HB1
  clear hm hr h1
  go_enter Try.func37, Try.ntmps37
  go_wp2_with fail
  generalize w.alloc (.cells #[.int .i64 1, .int .u64 (s.addr : Int), .int .u64 (s.x : Int)] 78 (0, 0)) = W1 at HM1 HR1 HC1 HB1 HS1 ⊢
  refine wp_region_held_drew (S := (fun W => W.cell? ⟨w.heap.size, 1, none⟩ = some (.int .u64 (s.addr : Int)) ∧ W.cell? ⟨w.heap.size, 2, none⟩ = some (.int .u64 (s.x : Int)))) (by kernel_rfl) ?_ (fun hHeld => ?_)
  · (try dsimp only); exact HC1.out
  refine wpAnyH_take (i := 0) (oi := { dst := Option.some 14, op := Go.Op.move (Go.Operand.tmp 0), type := 29, pos := "law.go:90", after := #[], guard := Option.none }) (v := ?_) rfl (by kernel_rfl) (by kernel_rfl) (by kernel_rfl) (fun _ _ _ h => h) (Or.inl ⟨by rfl, ?_⟩) (by assumption) ?_
  rotate_left
  · (intro W hSw; obtain ⟨z1, z2⟩ := hSw; go_simp; try with_reducible rfl)
  try simp only [Act.put, List.setIfInBounds_toArray, List.set_cons_zero, List.set_cons_succ]
  refine wpAnyH_take (i := 1) (oi := { dst := Option.some 15, op := Go.Op.move (Go.Operand.tmp 0), type := 29, pos := "law.go:90", after := #[], guard := Option.none }) (v := ?_) rfl (by kernel_rfl) (by kernel_rfl) (by kernel_rfl) (fun _ _ _ h => h) (Or.inl ⟨by rfl, ?_⟩) (by assumption) ?_
  rotate_left
  · (intro W hSw; obtain ⟨z1, z2⟩ := hSw; go_simp; try with_reducible rfl)
  try simp only [Act.put, List.setIfInBounds_toArray, List.set_cons_zero, List.set_cons_succ]
  refine wpAnyH_take (i := 2) (oi := { dst := Option.some 16, op := Go.Op.fieldAddr 78 (Go.Operand.tmp 5) 1, type := 0, pos := "law.go:90", after := #[], guard := Option.none }) (v := ?_) rfl (by kernel_rfl) (by kernel_rfl) (by kernel_rfl) (fun _ _ _ h => h) (Or.inl ⟨by rfl, ?_⟩) (by assumption) ?_
  rotate_left
  · (intro W hSw; obtain ⟨z1, z2⟩ := hSw; go_simp; try with_reducible rfl)
  try simp only [Act.put, List.setIfInBounds_toArray, List.set_cons_zero, List.set_cons_succ]
  refine wpAnyH_take (i := 3) (oi := { dst := Option.some 17, op := Go.Op.load 25 (Go.Operand.tmp 16), type := 25, pos := "law.go:90", after := #[{ on := 2, ground := Go.Ground.data }], guard := Option.none }) (v := ?_) rfl (by kernel_rfl) (by kernel_rfl) (by kernel_rfl) (fun _ _ _ h => h) (Or.inl ⟨by rfl, ?_⟩) (by assumption) ?_
  rotate_left
  · (intro W hSw; obtain ⟨z1, z2⟩ := hSw; go_simp; try with_reducible rfl)
  try simp only [Act.put, List.setIfInBounds_toArray, List.set_cons_zero, List.set_cons_succ]
  refine wpAnyH_take (i := 4) (oi := { dst := Option.some 18, op := Go.Op.fieldAddr 78 (Go.Operand.tmp 5) 2, type := 0, pos := "law.go:90", after := #[], guard := Option.none }) (v := ?_) rfl (by kernel_rfl) (by kernel_rfl) (by kernel_rfl) (fun _ _ _ h => h) (Or.inl ⟨by rfl, ?_⟩) (by assumption) ?_
  rotate_left
  · (intro W hSw; obtain ⟨z1, z2⟩ := hSw; go_simp; try with_reducible rfl)
  try simp only [Act.put, List.setIfInBounds_toArray, List.set_cons_zero, List.set_cons_succ]
  refine wpAnyH_take (i := 5) (oi := { dst := Option.some 19, op := Go.Op.load 25 (Go.Operand.tmp 18), type := 25, pos := "law.go:90", after := #[{ on := 4, ground := Go.Ground.data }], guard := Option.none }) (v := ?_) rfl (by kernel_rfl) (by kernel_rfl) (by kernel_rfl) (fun _ _ _ h => h) (Or.inl ⟨by rfl, ?_⟩) (by assumption) ?_
  rotate_left
  · (intro W hSw; obtain ⟨z1, z2⟩ := hSw; go_simp; try with_reducible rfl)
  try simp only [Act.put, List.setIfInBounds_toArray, List.set_cons_zero, List.set_cons_succ]
  refine wpAnyH_take (i := 8) (oi := { dst := Option.some 22, op := Go.Op.move (Go.Operand.tmp 1), type := 34, pos := "law.go:90", after := #[], guard := Option.none }) (v := ?_) rfl (by kernel_rfl) (by kernel_rfl) (by kernel_rfl) (fun _ _ _ h => h) (Or.inl ⟨by rfl, ?_⟩) (by assumption) ?_
  rotate_left
  · (intro W hSw; obtain ⟨z1, z2⟩ := hSw; go_simp; try with_reducible rfl)
  try simp only [Act.put, List.setIfInBounds_toArray, List.set_cons_zero, List.set_cons_succ]
  refine wpAnyH_take (i := 9) (oi := { dst := Option.some 23, op := Go.Op.fieldAddr 78 (Go.Operand.tmp 5) 1, type := 0, pos := "law.go:90", after := #[], guard := Option.none }) (v := ?_) rfl (by kernel_rfl) (by kernel_rfl) (by kernel_rfl) (fun _ _ _ h => h) (Or.inl ⟨by rfl, ?_⟩) (by assumption) ?_
  rotate_left
  · (intro W hSw; obtain ⟨z1, z2⟩ := hSw; go_simp; try with_reducible rfl)
  try simp only [Act.put, List.setIfInBounds_toArray, List.set_cons_zero, List.set_cons_succ]
  refine wpAnyH_take (i := 10) (oi := { dst := Option.some 24, op := Go.Op.load 25 (Go.Operand.tmp 23), type := 25, pos := "law.go:90", after := #[{ on := 9, ground := Go.Ground.data }], guard := Option.none }) (v := ?_) rfl (by kernel_rfl) (by kernel_rfl) (by kernel_rfl) (fun _ _ _ h => h) (Or.inl ⟨by rfl, ?_⟩) (by assumption) ?_
  rotate_left
  · (intro W hSw; obtain ⟨z1, z2⟩ := hSw; go_simp; try with_reducible rfl)
  try simp only [Act.put, List.setIfInBounds_toArray, List.set_cons_zero, List.set_cons_succ]
  refine wpAnyH_take (i := 11) (oi := { dst := Option.some 25, op := Go.Op.fieldAddr 78 (Go.Operand.tmp 5) 2, type := 0, pos := "law.go:90", after := #[], guard := Option.none }) (v := ?_) rfl (by kernel_rfl) (by kernel_rfl) (by kernel_rfl) (fun _ _ _ h => h) (Or.inl ⟨by rfl, ?_⟩) (by assumption) ?_
  rotate_left
  · (intro W hSw; obtain ⟨z1, z2⟩ := hSw; go_simp; try with_reducible rfl)
  try simp only [Act.put, List.setIfInBounds_toArray, List.set_cons_zero, List.set_cons_succ]
  refine wpAnyH_take (i := 12) (oi := { dst := Option.some 26, op := Go.Op.load 25 (Go.Operand.tmp 25), type := 25, pos := "law.go:90", after := #[{ on := 11, ground := Go.Ground.data }], guard := Option.none }) (v := ?_) rfl (by kernel_rfl) (by kernel_rfl) (by kernel_rfl) (fun _ _ _ h => h) (Or.inl ⟨by rfl, ?_⟩) (by assumption) ?_
  rotate_left
  · (intro W hSw; obtain ⟨z1, z2⟩ := hSw; go_simp; try with_reducible rfl)
  try simp only [Act.put, List.setIfInBounds_toArray, List.set_cons_zero, List.set_cons_succ]
  refine wpAnyH_ready (rs := [6]) (by kernel_rfl) (by simp) ?_
  refine AllReadyH.cons (o := { dst := Option.some 20, op := Go.Op.call { callee := Go.Callee.value (Go.Operand.func 28), args := #[Go.Operand.tmp 15, Go.Operand.tmp 17, Go.Operand.tmp 19], argTypes := #[29, 25, 25] }, type := 30, pos := "law.go:90", after := #[{ on := 1, ground := Go.Ground.data }, { on := 3, ground := Go.Ground.data }, { on := 5, ground := Go.Ground.data }], guard := Option.none }) rfl (fun K hK => ?_) AllReadyH.nil
  go_simp
  refine (store_yes l f B1 g1 s.addr s.x _ HM1.out hok ha h0 hx).mono ?_
  rintro e W6 ⟨rfl, hM6, hA⟩
  have hz6 := HS1.out
  have HM6 := Lib.hid hM6
  have HA6 := Lib.hid hA
  have HR6 := Lib.hid (HR1.out.agr hA (by omega))
  clear hM6
  refine hK.out _ _ ?_ (fun hHeld => ?_)
  · (try dsimp only); exact ⟨(World.cell?_of_block (hA.block w.heap.size (by omega) (by omega))).trans hHeld.1, (World.cell?_of_block (hA.block w.heap.size (by omega) (by omega))).trans hHeld.2⟩
  clear hK K
  try simp only [Act.put, List.setIfInBounds_toArray, List.set_cons_zero, List.set_cons_succ]
  refine wpAnyH_ready (rs := [7]) (by kernel_rfl) (by simp) ?_
  refine AllReadyH.cons (o := { dst := Option.some 21, op := Go.Op.call { callee := Go.Callee.value (Go.Operand.func 11), args := #[Go.Operand.tmp 20], argTypes := #[30] }, type := 3, pos := "law.go:90", after := #[{ on := 6, ground := Go.Ground.data }, { on := 6, ground := Go.Ground.chain }], guard := Option.none }) rfl (fun K hK => ?_) AllReadyH.nil
  go_simp
  clear hA hz6
  refine (num_any 0 _).mono ?_
  rintro e W7 ⟨rfl, rfl⟩
  refine hK.out _ _ ?_ (fun hHeld => ?_)
  · (try dsimp only); exact hHeld
  clear hK K
  try simp only [Act.put, List.setIfInBounds_toArray, List.set_cons_zero, List.set_cons_succ]
  refine wpAnyH_ready (rs := [13]) (by kernel_rfl) (by simp) ?_
  refine AllReadyH.cons (o := { dst := Option.some 27, op := Go.Op.call { callee := Go.Callee.value (Go.Operand.func 57), args := #[Go.Operand.tmp 22, Go.Operand.tmp 24, Go.Operand.tmp 26], argTypes := #[34, 25, 25] }, type := 3, pos := "law.go:90", after := #[{ on := 8, ground := Go.Ground.data }, { on := 10, ground := Go.Ground.data }, { on := 12, ground := Go.Ground.data }, { on := 7, ground := Go.Ground.chain }], guard := Option.none }) rfl (fun K hK => ?_) AllReadyH.nil
  go_simp
  refine (refStore_yes l bt B2 g2 s.addr s.x _ HR6.out hok h0 hx).mono ?_
  rintro e W13 ⟨rfl, hR13, hA⟩
  have hz13 := Nat.lt_of_lt_of_le HS1.out HA6.out.size
  have HM13 := Lib.hid (HM6.out.agx hA hd)
  have HR13 := Lib.hid hR13
  have HA13 := Lib.hid hA
  clear hR13
  refine hK.out _ _ ?_ (fun hHeld => ?_)
  · (try dsimp only); exact ⟨(World.cell?_of_block (hA.block w.heap.size (by omega) (by omega))).trans hHeld.1, (World.cell?_of_block (hA.block w.heap.size (by omega) (by omega))).trans hHeld.2⟩
  clear hK K
  try simp only [Act.put, List.setIfInBounds_toArray, List.set_cons_zero, List.set_cons_succ]
  refine wpAnyH_take (i := 14) (oi := { dst := Option.some 28, op := Go.Op.binOp Go.BinOp.eql 3 (Go.Operand.tmp 21) (Go.Operand.tmp 27) 3, type := 4, pos := "law.go:90", after := #[{ on := 7, ground := Go.Ground.data }, { on := 13, ground := Go.Ground.data }, { on := 15, ground := Go.Ground.gcOnly Go.Departure.lateStores }], guard := Option.none }) (v := ?_) rfl (by kernel_rfl) (by kernel_rfl) (by kernel_rfl) (fun _ _ _ h => h) (Or.inl ⟨by rfl, ?_⟩) (by assumption) ?_
  rotate_left
  · (intro W hSw; obtain ⟨z1, z2⟩ := hSw; go_simp; try with_reducible rfl)
  try simp only [Act.put, List.setIfInBounds_toArray, List.set_cons_zero, List.set_cons_succ]
  refine wpAnyH_take (i := 15) (oi := { dst := Option.some 6, op := Go.Op.assign (Go.Operand.tmp 14), type := 29, pos := "law.go:90", after := #[{ on := 0, ground := Go.Ground.data }, { on := 13, ground := Go.Ground.chain }, { on := 0, ground := Go.Ground.phase }, { on := 1, ground := Go.Ground.textOnly Go.Departure.lateStores }, { on := 2, ground := Go.Ground.textOnly Go.Departure.lateStores }, { on := 3, ground := Go.Ground.textOnly Go.Departure.lateStores }, { on := 4, ground := Go.Ground.textOnly Go.Departure.lateStores }, { on := 5, ground := Go.Ground.textOnly Go.Departure.lateStores }, { on := 6, ground := Go.Ground.textOnly Go.Departure.lateStoresUnsure }, { on := 7, ground := Go.Ground.textOnly Go.Departure.lateStoresUnsure }, { on := 8, ground := Go.Ground.textOnly Go.Departure.lateStores }, { on := 9, ground := Go.Ground.textOnly Go.Departure.lateStores }, { on := 10, ground := Go.Ground.textOnly Go.Departure.lateStores }, { on := 11, ground := Go.Ground.textOnly Go.Departure.lateStores }, { on := 12, ground := Go.Ground.textOnly Go.Departure.lateStores }, { on := 13, ground := Go.Ground.textOnly Go.Departure.lateStoresUnsure }, { on := 14, ground := Go.Ground.textOnly Go.Departure.lateStores }], guard := Option.none }) (v := ?_) rfl (by kernel_rfl) (by kernel_rfl) (by kernel_rfl) (fun _ _ _ h => h) (Or.inl ⟨by rfl, ?_⟩) (by assumption) ?_
  rotate_left
  · (intro W hSw; obtain ⟨z1, z2⟩ := hSw; go_simp; try with_reducible rfl)
  try simp only [Act.put, List.setIfInBounds_toArray, List.set_cons_zero, List.set_cons_succ]
  refine wpAnyH_take (i := 16) (oi := { dst := Option.some 7, op := Go.Op.assign (Go.Operand.tmp 28), type := 4, pos := "law.go:90", after := #[{ on := 14, ground := Go.Ground.data }, { on := 15, ground := Go.Ground.chain }, { on := 0, ground := Go.Ground.phase }, { on := 1, ground := Go.Ground.phase }, { on := 2, ground := Go.Ground.phase }, { on := 3, ground := Go.Ground.phase }, { on := 4, ground := Go.Ground.phase }, { on := 5, ground := Go.Ground.phase }, { on := 6, ground := Go.Ground.phase }, { on := 7, ground := Go.Ground.phase }, { on := 8, ground := Go.Ground.phase }, { on := 9, ground := Go.Ground.phase }, { on := 10, ground := Go.Ground.phase }, { on := 11, ground := Go.Ground.phase }, { on := 12, ground := Go.Ground.phase }, { on := 13, ground := Go.Ground.phase }, { on := 14, ground := Go.Ground.phase }, { on := 15, ground := Go.Ground.phase }], guard := Option.none }) (v := ?_) rfl (by kernel_rfl) (by kernel_rfl) (by kernel_rfl) (fun _ _ _ h => h) (Or.inl ⟨by rfl, ?_⟩) (by assumption) ?_
  rotate_left
  · (intro W hSw; obtain ⟨z1, z2⟩ := hSw; go_simp; try with_reducible rfl)
  try simp only [Act.put, List.setIfInBounds_toArray, List.set_cons_zero, List.set_cons_succ]
  refine wpAnyH_done (by kernel_rfl) ?_ _
  clear hA hz13
  go_wp2_with fail
  go_ret2
  exact ⟨rfl, HM13.out, HR13.out, _, _, HB1.out.drew, HA6.out, HA13.out⟩
end Go.Proofs.Ytajjpaabkdgjbaa
