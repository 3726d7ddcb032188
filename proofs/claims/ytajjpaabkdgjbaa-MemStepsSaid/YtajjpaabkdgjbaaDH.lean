/- do: a byte that is refused. -/
import Derived.Test.YtajjpaabkdgjbaaDD
import Derived.Test.YtajjpaabkdgjbaaBB
import Derived.Test.YtajjpaabkdgjbaaBD
namespace Go.Proofs.Ytajjpaabkdgjbaa
open Go.RowKit

set_option maxRecDepth 100000 in
set_option maxHeartbeats 3200000 in
theorem do_byte_no (l : List Rg) (f bt : Nat → Nat) (B1 g1 B2 g2 : Nat) (s : Stp) (w : World) (hm : MemIs w B1 g1 l f) (hr : RefIs w B2 g2 l bt) (hok : l.all Rg.ok = true) (h1 : s.kind = 2) (ha : s.addr < 18446744073709551616) (h0 : errB l s.addr ≠ 0) :
    Calls Try.prog 37 #[.pointer (some ⟨g1, 0, none⟩), .pointer (some ⟨g2, 0, none⟩), .agg #[.int .i64 s.kind, .int .u64 (s.addr : Int), .int .u64 (s.x : Int)]] w
      fun e w' => e = .returned (.tuple #[.pointer (some ⟨g1, 0, none⟩), .bool true]) ∧ MemIs w' B1 g1 l f ∧ RefIs w' B2 g2 l bt ∧ Below w.heap.size w w' := by
  rw [h1]
  have HB1 := (Below.refl _ w).alloc (Nat.le_refl _) (.cells #[.int .i64 2, .int .u64 (s.addr : Int), .int .u64 (s.x : Int)] 78 (0, 0))
  have HM1 := Lib.hid ((hm.later HB1).later (Below.refl _ _).drew)
  have HR1 := Lib.hid ((hr.later HB1).later (Below.refl _ _).drew)
  have HC1 : Hid (((w.alloc (.cells #[.int .i64 2, .int .u64 (s.addr : Int), .int .u64 (s.x : Int)] 78 (0, 0))).drew.cell? ⟨w.heap.size, 1, none⟩ = some (.int .u64 (s.addr : Int))) ∧ (w.alloc (.cells #[.int .i64 2, .int .u64 (s.addr : Int), .int .u64 (s.x : Int)] 78 (0, 0))).drew.cell? ⟨w.heap.size, 2, none⟩ = some (.int .u64 (s.x : Int))) :=
    Lib.hid ⟨by simp [go_sem], by simp [go_sem]⟩
  have hg1 := hm.gt
  obtain ⟨_, _, hq1, hq2, hg2⟩ := hr.ptr
  have HS1 := Lib.hid (show w.heap.size < (w.alloc (.cells #[.int .i64 2, .int .u64 (s.addr : Int), .int .u64 (s.x : Int)] 78 (0, 0))).drew.heap.size by simp)
  have HB1 := Lib.hid HB1
  clear hm hr h1
  have HSB : Hid (∀ W, MemIs W B1 g1 l f → Calls Try.prog 58 #[.pointer (some ⟨g1, 0, none⟩), .int .u64 (s.addr : Int), .int .u8 ((s.x : Int) % 256)] W fun e w' => e = .returned (.int .i64 (errB l s.addr)) ∧ Below W.heap.size W w') := Lib.hid fun W h => by
    have := storeB_no l f B1 g1 s.addr (s.x % 256) W h hok ha h0
    push_cast at this
    exact this
  have HRB : Hid (∀ W, RefIs W B2 g2 l bt → Calls Try.prog 59 #[.pointer (some ⟨g2, 0, none⟩), .int .u64 (s.addr : Int), .int .u8 ((s.x : Int) % 256)] W fun e w' => e = .returned (.int .i64 (errB l s.addr)) ∧ Below W.heap.size W w') := Lib.hid fun W h => by
    have := refStoreB_no l bt B2 g2 s.addr (s.x % 256) W h hok ha h0
    push_cast at this
    exact this
  go_enter Try.func37, Try.ntmps37
  go_wp2_with fail
  generalize w.alloc (.cells #[.int .i64 2, .int .u64 (s.addr : Int), .int .u64 (s.x : Int)] 78 (0, 0)) = W1 at HM1 HR1 HC1 HB1 HS1 ⊢
  refine wp_region_held_drew (S := (fun W => W.cell? ⟨w.heap.size, 1, none⟩ = some (.int .u64 (s.addr : Int)) ∧ W.cell? ⟨w.heap.size, 2, none⟩ = some (.int .u64 (s.x : Int)))) (by kernel_rfl) ?_ (fun hHeld => ?_)
  · (try dsimp only); exact HC1.out
  refine wpAnyH_take (i := 0) (oi := { dst := Option.some 31, op := Go.Op.move (Go.Operand.tmp 0), type := 29, pos := "law.go:92", after := #[], guard := Option.none }) (v := ?_) rfl (by kernel_rfl) (by kernel_rfl) (by kernel_rfl) (fun _ _ _ h => h) (Or.inl ⟨by rfl, ?_⟩) (by assumption) ?_
  rotate_left
  · (intro W hSw; obtain ⟨z1, z2⟩ := hSw; go_simp; try with_reducible rfl)
  try simp only [Act.put, List.setIfInBounds_toArray, List.set_cons_zero, List.set_cons_succ]
  refine wpAnyH_take (i := 1) (oi := { dst := Option.some 32, op := Go.Op.move (Go.Operand.tmp 0), type := 29, pos := "law.go:92", after := #[], guard := Option.none }) (v := ?_) rfl (by kernel_rfl) (by kernel_rfl) (by kernel_rfl) (fun _ _ _ h => h) (Or.inl ⟨by rfl, ?_⟩) (by assumption) ?_
  rotate_left
  · (intro W hSw; obtain ⟨z1, z2⟩ := hSw; go_simp; try with_reducible rfl)
  try simp only [Act.put, List.setIfInBounds_toArray, List.set_cons_zero, List.set_cons_succ]
  refine wpAnyH_take (i := 2) (oi := { dst := Option.some 33, op := Go.Op.fieldAddr 78 (Go.Operand.tmp 5) 1, type := 0, pos := "law.go:92", after := #[], guard := Option.none }) (v := ?_) rfl (by kernel_rfl) (by kernel_rfl) (by kernel_rfl) (fun _ _ _ h => h) (Or.inl ⟨by rfl, ?_⟩) (by assumption) ?_
  rotate_left
  · (intro W hSw; obtain ⟨z1, z2⟩ := hSw; go_simp; try with_reducible rfl)
  try simp only [Act.put, List.setIfInBounds_toArray, List.set_cons_zero, List.set_cons_succ]
  refine wpAnyH_take (i := 3) (oi := { dst := Option.some 34, op := Go.Op.load 25 (Go.Operand.tmp 33), type := 25, pos := "law.go:92", after := #[{ on := 2, ground := Go.Ground.data }], guard := Option.none }) (v := ?_) rfl (by kernel_rfl) (by kernel_rfl) (by kernel_rfl) (fun _ _ _ h => h) (Or.inl ⟨by rfl, ?_⟩) (by assumption) ?_
  rotate_left
  · (intro W hSw; obtain ⟨z1, z2⟩ := hSw; go_simp; try with_reducible rfl)
  try simp only [Act.put, List.setIfInBounds_toArray, List.set_cons_zero, List.set_cons_succ]
  refine wpAnyH_take (i := 4) (oi := { dst := Option.some 35, op := Go.Op.fieldAddr 78 (Go.Operand.tmp 5) 2, type := 0, pos := "law.go:92", after := #[], guard := Option.none }) (v := ?_) rfl (by kernel_rfl) (by kernel_rfl) (by kernel_rfl) (fun _ _ _ h => h) (Or.inl ⟨by rfl, ?_⟩) (by assumption) ?_
  rotate_left
  · (intro W hSw; obtain ⟨z1, z2⟩ := hSw; go_simp; try with_reducible rfl)
  try simp only [Act.put, List.setIfInBounds_toArray, List.set_cons_zero, List.set_cons_succ]
  refine wpAnyH_take (i := 5) (oi := { dst := Option.some 36, op := Go.Op.load 25 (Go.Operand.tmp 35), type := 25, pos := "law.go:92", after := #[{ on := 4, ground := Go.Ground.data }], guard := Option.none }) (v := ?_) rfl (by kernel_rfl) (by kernel_rfl) (by kernel_rfl) (fun _ _ _ h => h) (Or.inl ⟨by rfl, ?_⟩) (by assumption) ?_
  rotate_left
  · (intro W hSw; obtain ⟨z1, z2⟩ := hSw; go_simp; try with_reducible rfl)
  try simp only [Act.put, List.setIfInBounds_toArray, List.set_cons_zero, List.set_cons_succ]
  refine wpAnyH_take (i := 6) (oi := { dst := Option.some 37, op := Go.Op.convert 25 5 (Go.Operand.tmp 36), type := 5, pos := "law.go:92", after := #[{ on := 5, ground := Go.Ground.data }], guard := Option.none }) (v := ?_) rfl (by kernel_rfl) (by kernel_rfl) (by kernel_rfl) (fun _ _ _ h => h) (Or.inl ⟨by rfl, ?_⟩) (by assumption) ?_
  rotate_left
  · (intro W hSw; obtain ⟨z1, z2⟩ := hSw; go_simp; try with_reducible rfl)
  try simp only [Act.put, List.setIfInBounds_toArray, List.set_cons_zero, List.set_cons_succ]
  refine wpAnyH_take (i := 9) (oi := { dst := Option.some 40, op := Go.Op.move (Go.Operand.tmp 1), type := 34, pos := "law.go:92", after := #[], guard := Option.none }) (v := ?_) rfl (by kernel_rfl) (by kernel_rfl) (by kernel_rfl) (fun _ _ _ h => h) (Or.inl ⟨by rfl, ?_⟩) (by assumption) ?_
  rotate_left
  · (intro W hSw; obtain ⟨z1, z2⟩ := hSw; go_simp; try with_reducible rfl)
  try simp only [Act.put, List.setIfInBounds_toArray, List.set_cons_zero, List.set_cons_succ]
  refine wpAnyH_take (i := 10) (oi := { dst := Option.some 41, op := Go.Op.fieldAddr 78 (Go.Operand.tmp 5) 1, type := 0, pos := "law.go:92", after := #[], guard := Option.none }) (v := ?_) rfl (by kernel_rfl) (by kernel_rfl) (by kernel_rfl) (fun _ _ _ h => h) (Or.inl ⟨by rfl, ?_⟩) (by assumption) ?_
  rotate_left
  · (intro W hSw; obtain ⟨z1, z2⟩ := hSw; go_simp; try with_reducible rfl)
  try simp only [Act.put, List.setIfInBounds_toArray, List.set_cons_zero, List.set_cons_succ]
  refine wpAnyH_take (i := 11) (oi := { dst := Option.some 42, op := Go.Op.load 25 (Go.Operand.tmp 41), type := 25, pos := "law.go:92", after := #[{ on := 10, ground := Go.Ground.data }], guard := Option.none }) (v := ?_) rfl (by kernel_rfl) (by kernel_rfl) (by kernel_rfl) (fun _ _ _ h => h) (Or.inl ⟨by rfl, ?_⟩) (by assumption) ?_
  rotate_left
  · (intro W hSw; obtain ⟨z1, z2⟩ := hSw; go_simp; try with_reducible rfl)
  try simp only [Act.put, List.setIfInBounds_toArray, List.set_cons_zero, List.set_cons_succ]
  refine wpAnyH_take (i := 12) (oi := { dst := Option.some 43, op := Go.Op.fieldAddr 78 (Go.Operand.tmp 5) 2, type := 0, pos := "law.go:92", after := #[], guard := Option.none }) (v := ?_) rfl (by kernel_rfl) (by kernel_rfl) (by kernel_rfl) (fun _ _ _ h => h) (Or.inl ⟨by rfl, ?_⟩) (by assumption) ?_
  rotate_left
  · (intro W hSw; obtain ⟨z1, z2⟩ := hSw; go_simp; try with_reducible rfl)
  try simp only [Act.put, List.setIfInBounds_toArray, List.set_cons_zero, List.set_cons_succ]
  refine wpAnyH_take (i := 13) (oi := { dst := Option.some 44, op := Go.Op.load 25 (Go.Operand.tmp 43), type := 25, pos := "law.go:92", after := #[{ on := 12, ground := Go.Ground.data }], guard := Option.none }) (v := ?_) rfl (by kernel_rfl) (by kernel_rfl) (by kernel_rfl) (fun _ _ _ h => h) (Or.inl ⟨by rfl, ?_⟩) (by assumption) ?_
  rotate_left
  · (intro W hSw; obtain ⟨z1, z2⟩ := hSw; go_simp; try with_reducible rfl)
  try simp only [Act.put, List.setIfInBounds_toArray, List.set_cons_zero, List.set_cons_succ]
  refine wpAnyH_take (i := 14) (oi := { dst := Option.some 45, op := Go.Op.convert 25 5 (Go.Operand.tmp 44), type := 5, pos := "law.go:92", after := #[{ on := 13, ground := Go.Ground.data }], guard := Option.none }) (v := ?_) rfl (by kernel_rfl) (by kernel_rfl) (by kernel_rfl) (fun _ _ _ h => h) (Or.inl ⟨by rfl, ?_⟩) (by assumption) ?_
  rotate_left
  · (intro W hSw; obtain ⟨z1, z2⟩ := hSw; go_simp; try with_reducible rfl)
  try simp only [Act.put, List.setIfInBounds_toArray, List.set_cons_zero, List.set_cons_succ]
  refine wpAnyH_ready (rs := [7]) (by kernel_rfl) (by simp) ?_
  refine AllReadyH.cons (o := { dst := Option.some 38, op := Go.Op.call { callee := Go.Callee.value (Go.Operand.func 58), args := #[Go.Operand.tmp 32, Go.Operand.tmp 34, Go.Operand.tmp 37], argTypes := #[29, 25, 5] }, type := 30, pos := "law.go:92", after := #[{ on := 1, ground := Go.Ground.data }, { on := 3, ground := Go.Ground.data }, { on := 6, ground := Go.Ground.data }], guard := Option.none }) rfl (fun K hK => ?_) AllReadyH.nil
  go_simp
  refine (HSB.out _ HM1.out).mono ?_
  rintro e W6 ⟨rfl, hA⟩
  have hz6 := HS1.out
  have HA6 := Lib.hid hA
  have HM6 := Lib.hid (HM1.out.later hA)
  have HR6 := Lib.hid (HR1.out.later hA)
  refine hK.out _ _ ?_ (fun hHeld => ?_)
  · (try dsimp only); exact ⟨(hA.cell (p := ⟨w.heap.size, 1, none⟩) (by show w.heap.size < _; omega)).trans hHeld.1, (hA.cell (p := ⟨w.heap.size, 2, none⟩) (by show w.heap.size < _; omega)).trans hHeld.2⟩
  clear hK K
  try simp only [Act.put, List.setIfInBounds_toArray, List.set_cons_zero, List.set_cons_succ]
  refine wpAnyH_ready (rs := [8]) (by kernel_rfl) (by simp) ?_
  refine AllReadyH.cons (o := { dst := Option.some 39, op := Go.Op.call { callee := Go.Callee.value (Go.Operand.func 11), args := #[Go.Operand.tmp 38], argTypes := #[30] }, type := 3, pos := "law.go:92", after := #[{ on := 7, ground := Go.Ground.data }, { on := 7, ground := Go.Ground.chain }], guard := Option.none }) rfl (fun K hK => ?_) AllReadyH.nil
  go_simp
  clear hA hz6
  refine (num_any _ _).mono ?_
  rintro e W7 ⟨rfl, rfl⟩
  refine hK.out _ _ ?_ (fun hHeld => ?_)
  · (try dsimp only); exact hHeld
  clear hK K
  try simp only [Act.put, List.setIfInBounds_toArray, List.set_cons_zero, List.set_cons_succ]
  refine wpAnyH_ready (rs := [15]) (by kernel_rfl) (by simp) ?_
  refine AllReadyH.cons (o := { dst := Option.some 46, op := Go.Op.call { callee := Go.Callee.value (Go.Operand.func 59), args := #[Go.Operand.tmp 40, Go.Operand.tmp 42, Go.Operand.tmp 45], argTypes := #[34, 25, 5] }, type := 3, pos := "law.go:92", after := #[{ on := 9, ground := Go.Ground.data }, { on := 11, ground := Go.Ground.data }, { on := 14, ground := Go.Ground.data }, { on := 8, ground := Go.Ground.chain }], guard := Option.none }) rfl (fun K hK => ?_) AllReadyH.nil
  go_simp
  refine (HRB.out _ HR6.out).mono ?_
  rintro e W13 ⟨rfl, hA⟩
  have hz13 := Nat.lt_of_lt_of_le HS1.out HA6.out.size
  have HM13 := Lib.hid (HM6.out.later hA)
  have HR13 := Lib.hid (HR6.out.later hA)
  have HA13 := Lib.hid hA
  generalize errB l s.addr = z
  refine hK.out _ _ ?_ (fun hHeld => ?_)
  · (try dsimp only); exact ⟨(hA.cell (p := ⟨w.heap.size, 1, none⟩) (by show w.heap.size < _; omega)).trans hHeld.1, (hA.cell (p := ⟨w.heap.size, 2, none⟩) (by show w.heap.size < _; omega)).trans hHeld.2⟩
  clear hK K
  try simp only [Act.put, List.setIfInBounds_toArray, List.set_cons_zero, List.set_cons_succ]
  refine wpAnyH_take (i := 16) (oi := { dst := Option.some 47, op := Go.Op.binOp Go.BinOp.eql 3 (Go.Operand.tmp 39) (Go.Operand.tmp 46) 3, type := 4, pos := "law.go:92", after := #[{ on := 8, ground := Go.Ground.data }, { on := 15, ground := Go.Ground.data }, { on := 17, ground := Go.Ground.gcOnly Go.Departure.lateStores }], guard := Option.none }) (v := ?_) rfl (by kernel_rfl) (by kernel_rfl) (by kernel_rfl) (fun _ _ _ h => h) (Or.inl ⟨by rfl, ?_⟩) (by assumption) ?_
  rotate_left
  · (intro W hSw; obtain ⟨z1, z2⟩ := hSw; go_simp; try with_reducible rfl)
  try simp only [Act.put, List.setIfInBounds_toArray, List.set_cons_zero, List.set_cons_succ]
  refine wpAnyH_take (i := 17) (oi := { dst := Option.some 6, op := Go.Op.assign (Go.Operand.tmp 31), type := 29, pos := "law.go:92", after := #[{ on := 0, ground := Go.Ground.data }, { on := 15, ground := Go.Ground.chain }, { on := 0, ground := Go.Ground.phase }, { on := 1, ground := Go.Ground.textOnly Go.Departure.lateStores }, { on := 2, ground := Go.Ground.textOnly Go.Departure.lateStores }, { on := 3, ground := Go.Ground.textOnly Go.Departure.lateStores }, { on := 4, ground := Go.Ground.textOnly Go.Departure.lateStores }, { on := 5, ground := Go.Ground.textOnly Go.Departure.lateStores }, { on := 6, ground := Go.Ground.textOnly Go.Departure.lateStores }, { on := 7, ground := Go.Ground.textOnly Go.Departure.lateStoresUnsure }, { on := 8, ground := Go.Ground.textOnly Go.Departure.lateStoresUnsure }, { on := 9, ground := Go.Ground.textOnly Go.Departure.lateStores }, { on := 10, ground := Go.Ground.textOnly Go.Departure.lateStores }, { on := 11, ground := Go.Ground.textOnly Go.Departure.lateStores }, { on := 12, ground := Go.Ground.textOnly Go.Departure.lateStores }, { on := 13, ground := Go.Ground.textOnly Go.Departure.lateStores }, { on := 14, ground := Go.Ground.textOnly Go.Departure.lateStores }, { on := 15, ground := Go.Ground.textOnly Go.Departure.lateStoresUnsure }, { on := 16, ground := Go.Ground.textOnly Go.Departure.lateStores }], guard := Option.none }) (v := ?_) rfl (by kernel_rfl) (by kernel_rfl) (by kernel_rfl) (fun _ _ _ h => h) (Or.inl ⟨by rfl, ?_⟩) (by assumption) ?_
  rotate_left
  · (intro W hSw; obtain ⟨z1, z2⟩ := hSw; go_simp; try with_reducible rfl)
  try simp only [Act.put, List.setIfInBounds_toArray, List.set_cons_zero, List.set_cons_succ]
  refine wpAnyH_take (i := 18) (oi := { dst := Option.some 7, op := Go.Op.assign (Go.Operand.tmp 47), type := 4, pos := "law.go:92", after := #[{ on := 16, ground := Go.Ground.data }, { on := 17, ground := Go.Ground.chain }, { on := 0, ground := Go.Ground.phase }, { on := 1, ground := Go.Ground.phase }, { on := 2, ground := Go.Ground.phase }, { on := 3, ground := Go.Ground.phase }, { on := 4, ground := Go.Ground.phase }, { on := 5, ground := Go.Ground.phase }, { on := 6, ground := Go.Ground.phase }, { on := 7, ground := Go.Ground.phase }, { on := 8, ground := Go.Ground.phase }, { on := 9, ground := Go.Ground.phase }, { on := 10, ground := Go.Ground.phase }, { on := 11, ground := Go.Ground.phase }, { on := 12, ground := Go.Ground.phase }, { on := 13, ground := Go.Ground.phase }, { on := 14, ground := Go.Ground.phase }, { on := 15, ground := Go.Ground.phase }, { on := 16, ground := Go.Ground.phase }, { on := 17, ground := Go.Ground.phase }], guard := Option.none }) (v := ?_) rfl (by kernel_rfl) (by kernel_rfl) (by kernel_rfl) (fun _ _ _ h => h) (Or.inl ⟨by rfl, ?_⟩) (by assumption) ?_
  rotate_left
  · (intro W hSw; obtain ⟨z1, z2⟩ := hSw; go_simp; try with_reducible rfl)
  try simp only [Act.put, List.setIfInBounds_toArray, List.set_cons_zero, List.set_cons_succ]
  refine wpAnyH_done (by kernel_rfl) ?_ _
  clear hA hz13
  go_wp2_with fail
  go_ret2
  exact ⟨by simp, HM13.out, HR13.out, ((HB1.out.drew).trans (HA6.out.mono (Nat.le_of_lt HS1.out))).trans (HA13.out.mono (Nat.le_trans (Nat.le_of_lt HS1.out) HA6.out.size))⟩
end Go.Proofs.Ytajjpaabkdgjbaa
