/- Which regions may be: do two meet? -/
import Derived.Test.YtajjpaabkdgjbaaB2
import Derived.Deep.LoopGhost
import Derived.WalkMore
import Derived.Lib.Strings
namespace Go.Proofs.Ytajjpaabkdgjbaa
open Go.RowKit

theorem meet_yes {ds rs ds1 ds2 : List Rg} {r d : Rg} (hd : ds = ds1 ++ d :: ds2) (h : r.meets d = true) : meetAny ds (r :: rs) = true := by
  subst hd
  simp [meetAny, h]
theorem meet_no {ds rs : List Rg} {r : Rg} (h : ds.any (fun d => r.meets d) = false) : meetAny ds (r :: rs) = meetAny (ds ++ [r]) rs := by
  simp only [meetAny, h, Bool.false_or]

/-- a region in a variable of its own -/
def RgV (w : World) (r : Rg) (a : Nat) : Prop := w.cell? ⟨a, 0, none⟩ = some (.string r.name) ∧ w.cell? ⟨a, 1, none⟩ = some (.int .i64 r.addr) ∧ w.cell? ⟨a, 2, none⟩ = some (.int .i64 r.size) ∧ w.cell? ⟨a, 3, none⟩ = some (.bool r.sec)
theorem RgV.later {w w' : World} {r : Rg} {a B : Nat} (h : RgV w r a) (hB : Below B w w') (ha : a < B) : RgV w' r a :=
  ⟨(hB.cell ha).trans h.1, (hB.cell ha).trans h.2.1, (hB.cell ha).trans h.2.2.1, (hB.cell ha).trans h.2.2.2⟩

theorem wrapA (x z : Int) (h1 : 0 ≤ x) (h2 : x ≤ 49152) (h3 : 1 ≤ z) (h4 : z ≤ 512) : IntKind.i64.wrap (x + z * 8) = x + z * 8 := IntWalk.i64_in _ (by omega)

theorem name_eq {a b : ByteArray} : (a.toList == b.toList) = decide (a = b) := by
  rw [Bool.eq_iff_iff, beq_iff_eq, decide_eq_true_iff, Lib.toList_data, Lib.toList_data]
  constructor
  · intro h; cases a; cases b; simp at h; simp [h]
  · intro h; rw [h]

/-- the test of two regions -/
def M1 (a b : Rg) : Bool := decide (a.addr < b.addr + b.size * 8)

set_option maxRecDepth 100000 in
set_option maxHeartbeats 3200000 in
theorem anyMeet_any (l : List Rg) (p : Option Addr) (c N : Nat) (w : World) (h : RgIn w N l p) (hN : N ≤ w.heap.size) (hc : l.length ≤ c) (hcm : c ≤ 9223372036854775807) (hok : l.all Rg.ok = true) :
    Calls Try.prog 51 #[.slice p l.length c] w fun e w' => e = .returned (.bool (meetAny [] l)) ∧ Below w.heap.size w w' := by
  have HS := Lib.hid h
  have HO := Lib.hid hok
  have hm := h.1
  clear h hok
  go_enter Try.func51, Try.ntmps51
  go_wp2_with fail
  go_step3
  go_wp2_with fail
  go_step3
  go_wp2_with fail
  go_loopg [3, 10] l.length (fun g s3 s10 wx => ∃ ds rs : List Rg, s3 = .bool false ∧ s10 = .int .i64 ds.length ∧ Hid (l = ds ++ rs) ∧ rs.length = g ∧ ds.length + rs.length = l.length ∧ Hid (meetAny [] l = meetAny ds rs) ∧ Hid (Below w.heap.size w wx))
  case atStart => exact ⟨[], l, rfl, rfl, Lib.hid rfl, rfl, by simp, Lib.hid rfl, Lib.hid (Below.refl _ _)⟩
  case round =>
    obtain ⟨ds, rs, rfl, rfl, hE, hg, hk, hI, hB⟩ := hrel
    cases rs with
    | nil =>
      simp only [List.length_nil] at hk
      have hge : ¬ ds.length < l.length := by omega
      clear hg
      go_wp2_with fail
      try rw [Exit.noGoto_ret]
      go_ret
      exact ⟨ret_bool (by rw [hI.out]; rfl), hB.out⟩
    | cons r rs =>
      simp only [List.length_cons] at hk hg
      subst hg
      obtain ⟨b, o, rfl, hb, hA⟩ : ∃ b o, p = some ⟨b, o, none⟩ ∧ b < N ∧ RgAt w l b o := by
        rcases HS.out.2 with h0 | h0
        · omega
        · exact h0
      rw [hE.out] at hA
      obtain ⟨⟨f0, f1, f2, f3⟩, _⟩ := RgAt.drop ds (r :: rs) b o hA
      have g0 := (hB.out.cell (show b < w.heap.size by omega)).trans f0
      have g1 := (hB.out.cell (show b < w.heap.size by omega)).trans f1
      have g2 := (hB.out.cell (show b < w.heap.size by omega)).trans f2
      have g3 := (hB.out.cell (show b < w.heap.size by omega)).trans f3
      have HA := Lib.hid hA
      clear hA f0 f1 f2 f3
      have hlt : ds.length < l.length := by omega
      have hcc : ds.length ≤ c := by omega
      have hro : r.ok = true := List.all_eq_true.1 HO.out r (by rw [hE.out]; simp)
      obtain ⟨_, r0, r8, rb⟩ := Rg.ok_iff.1 hro
      obtain ⟨_, _, rz1, rz2⟩ := (Rg.ok_iff.1 hro).1
      have hwz : w.heap.size ≤ wr.heap.size := hB.out.size
      obtain ⟨wo, rfl⟩ : ∃ wo : World, wo = wr := ⟨_, rfl⟩
      go_wp2_with fail
      clear g0 g1 g2 g3 hro r8
      go_loopg [3, 19] ds.length (fun g2 s3 s19 wx => ∃ ds1 ds2 : List Rg, s3 = .bool false ∧ s19 = .int .i64 ds1.length ∧ Hid (ds = ds1 ++ ds2) ∧ ds2.length = g2 ∧ ds1.length + ds2.length = ds.length ∧ Hid (ds1.any (fun d => r.meets d) = false) ∧ Hid (Below w.heap.size w wx) ∧ wo.heap.size < wx.heap.size ∧ RgV wx r wo.heap.size)
      case atStart => exact ⟨[], ds, rfl, rfl, Lib.hid rfl, rfl, by simp, Lib.hid rfl, Lib.hid (hB.out.alloc hwz _), by simp, by simp [RgV, go_sem]⟩
      case round =>
        obtain ⟨ds1, ds2, rfl, rfl, hE2, hg2, hk2, hN, hB2, hwx, hV⟩ := hrel
        cases ds2 with
        | nil =>
          simp only [List.length_nil] at hk2
          have hge : ¬ ds1.length < ds.length := by omega
          clear hg2
          go_wp2_with fail
          go_roundg rs.length
          case measure => omega
          case rel =>
            have hds := hE2.out
            simp only [List.append_nil] at hds
            exact ⟨ds ++ [r], rs, rfl, by rw [List.length_append]; go_num, Lib.hid (by rw [hE.out]; simp), rfl, by simp; omega, Lib.hid (by rw [hI.out]; exact meet_no (by rw [hds]; exact hN.out)), hB2⟩
        | cons d ds2 =>
          simp only [List.length_cons] at hk2 hg2
          have hA := HA.out
          rw [hE2.out] at hA
          obtain ⟨⟨f0, f1, f2, f3⟩, _⟩ := RgAt.drop ds1 (d :: (ds2 ++ r :: rs)) b o (by simpa using hA)
          have q0 := (hB2.out.cell (show b < w.heap.size by omega)).trans f0
          have q1 := (hB2.out.cell (show b < w.heap.size by omega)).trans f1
          have q2 := (hB2.out.cell (show b < w.heap.size by omega)).trans f2
          have q3 := (hB2.out.cell (show b < w.heap.size by omega)).trans f3
          have hdo : d.ok = true := List.all_eq_true.1 HO.out d (by rw [hE.out, hE2.out]; simp)
          obtain ⟨_, d0, d8, db⟩ := Rg.ok_iff.1 hdo
          obtain ⟨_, _, dz1, dz2⟩ := (Rg.ok_iff.1 hdo).1
          clear hA f0 f1 f2 f3 d8 hdo
          have hlt2 : ds1.length < ds.length := by omega
          obtain ⟨a0, a1, a2, a3⟩ := hV
          have w1 := wrapA d.addr d.size d0 (by omega) dz1 dz2
          have w2 := wrapA r.addr r.size r0 (by omega) rz1 rz2
          cases hn : (r.name.toList == d.name.toList) with
          | true =>
            have HM : Hid (meetAny [] l = true) := by
              rw [Lib.hid hI.out |>.out]
              exact meet_yes hE2.out (by rw [name_eq] at hn; simp [Rg.meets, of_decide_eq_true hn])
            go_wp2_with fail
            go_quiet (fail)
            all_goals go_wp2_with fail
            all_goals try rw [Exit.noGoto_ret]
            all_goals go_ret
            all_goals exact ⟨ret_bool HM.out.symm, below_drewN (hB2.out.alloc hB2.out.size _) _⟩
          | false =>
            cases h1 : decide (r.addr < d.addr + d.size * 8) with
            | false =>
              go_wp2_with fail
              refine wp_region_held_drew (S := (fun w' => (w'.cell? ⟨wo.heap.size, 0, none⟩ = some (.string r.name) ∧ w'.cell? ⟨wo.heap.size, 1, none⟩ = some (.int .i64 r.addr) ∧ w'.cell? ⟨wo.heap.size, 2, none⟩ = some (.int .i64 r.size) ∧ w'.cell? ⟨wo.heap.size, 3, none⟩ = some (.bool r.sec)) ∧ w'.cell? ⟨wr.heap.size, 0, none⟩ = some (.string d.name) ∧ w'.cell? ⟨wr.heap.size, 1, none⟩ = some (.int .i64 d.addr) ∧ w'.cell? ⟨wr.heap.size, 2, none⟩ = some (.int .i64 d.size) ∧ w'.cell? ⟨wr.heap.size, 3, none⟩ = some (.bool d.sec))) (by kernel_rfl) ?_ (fun hHeld => ?_)
              · (try dsimp only); go_keep
              refine wpAnyH_take (i := 0) (oi := { dst := Option.some 23, op := Go.Op.fieldAddr 66 (Go.Operand.tmp 5) 0, type := 0, pos := "regions.go:42", after := #[], guard := Option.none }) (v := ?_) rfl (by kernel_rfl) (by kernel_rfl) (by kernel_rfl) (fun _ _ _ h => h) (Or.inl ⟨by rfl, ?_⟩) (by assumption) ?_
              rotate_left
              · (intro w hSw; (try dsimp only at hSw); go_simp; try with_reducible rfl)
              try simp only [Act.put, List.setIfInBounds_toArray, List.set_cons_zero, List.set_cons_succ]
              refine wpAnyH_take (i := 1) (oi := { dst := Option.some 24, op := Go.Op.load 9 (Go.Operand.tmp 23), type := 9, pos := "regions.go:42", after := #[{ on := 0, ground := Go.Ground.data }], guard := Option.none }) (v := ?_) rfl (by kernel_rfl) (by kernel_rfl) (by kernel_rfl) (fun _ _ _ h => h) (Or.inl ⟨by rfl, ?_⟩) (by assumption) ?_
              rotate_left
              · (intro w hSw; (try dsimp only at hSw); go_simp; try with_reducible rfl)
              try simp only [Act.put, List.setIfInBounds_toArray, List.set_cons_zero, List.set_cons_succ]
              refine wpAnyH_take (i := 2) (oi := { dst := Option.some 25, op := Go.Op.fieldAddr 66 (Go.Operand.tmp 7) 0, type := 0, pos := "regions.go:42", after := #[], guard := Option.none }) (v := ?_) rfl (by kernel_rfl) (by kernel_rfl) (by kernel_rfl) (fun _ _ _ h => h) (Or.inl ⟨by rfl, ?_⟩) (by assumption) ?_
              rotate_left
              · (intro w hSw; (try dsimp only at hSw); go_simp; try with_reducible rfl)
              try simp only [Act.put, List.setIfInBounds_toArray, List.set_cons_zero, List.set_cons_succ]
              refine wpAnyH_take (i := 3) (oi := { dst := Option.some 26, op := Go.Op.load 9 (Go.Operand.tmp 25), type := 9, pos := "regions.go:42", after := #[{ on := 2, ground := Go.Ground.data }], guard := Option.none }) (v := ?_) rfl (by kernel_rfl) (by kernel_rfl) (by kernel_rfl) (fun _ _ _ h => h) (Or.inl ⟨by rfl, ?_⟩) (by assumption) ?_
              rotate_left
              · (intro w hSw; (try dsimp only at hSw); go_simp; try with_reducible rfl)
              try simp only [Act.put, List.setIfInBounds_toArray, List.set_cons_zero, List.set_cons_succ]
              refine wpAnyH_take (i := 4) (oi := { dst := Option.some 27, op := Go.Op.binOp Go.BinOp.eql 9 (Go.Operand.tmp 24) (Go.Operand.tmp 26) 9, type := 4, pos := "regions.go:42", after := #[{ on := 1, ground := Go.Ground.data }, { on := 3, ground := Go.Ground.data }], guard := Option.none }) (v := ?_) rfl (by kernel_rfl) (by kernel_rfl) (by kernel_rfl) (fun _ _ _ h => h) (Or.inl ⟨by rfl, ?_⟩) (by assumption) ?_
              rotate_left
              · (intro w hSw; (try dsimp only at hSw); go_simp; try with_reducible rfl)
              try simp only [Act.put, List.setIfInBounds_toArray, List.set_cons_zero, List.set_cons_succ]
              refine wpAnyH_take (i := 5) (oi := { dst := Option.some 28, op := Go.Op.move (Go.Operand.tmp 27), type := 4, pos := "regions.go:42", after := #[{ on := 4, ground := Go.Ground.data }], guard := Option.none }) (v := ?_) rfl (by kernel_rfl) (by kernel_rfl) (by kernel_rfl) (fun _ _ _ h => h) (Or.inl ⟨by rfl, ?_⟩) (by assumption) ?_
              rotate_left
              · (intro w hSw; (try dsimp only at hSw); go_simp; try with_reducible rfl)
              try simp only [Act.put, List.setIfInBounds_toArray, List.set_cons_zero, List.set_cons_succ]
              refine wpAnyH_take (i := 6) (oi := { dst := Option.some 29, op := Go.Op.fieldAddr 66 (Go.Operand.tmp 5) 1, type := 0, pos := "regions.go:42", after := #[{ on := 5, ground := Go.Ground.guard }], guard := Option.some (5, Bool.false) }) (v := ?_) rfl (by kernel_rfl) (by kernel_rfl) (by kernel_rfl) (fun _ _ _ h => h) (Or.inl ⟨by rfl, ?_⟩) (by assumption) ?_
              rotate_left
              · (intro w hSw; (try dsimp only at hSw); go_simp; try with_reducible rfl)
              try simp only [Act.put, List.setIfInBounds_toArray, List.set_cons_zero, List.set_cons_succ]
              refine wpAnyH_take (i := 7) (oi := { dst := Option.some 30, op := Go.Op.load 3 (Go.Operand.tmp 29), type := 3, pos := "regions.go:42", after := #[{ on := 6, ground := Go.Ground.data }, { on := 5, ground := Go.Ground.guard }], guard := Option.some (5, Bool.false) }) (v := ?_) rfl (by kernel_rfl) (by kernel_rfl) (by kernel_rfl) (fun _ _ _ h => h) (Or.inl ⟨by rfl, ?_⟩) (by assumption) ?_
              rotate_left
              · (intro w hSw; (try dsimp only at hSw); go_simp; try with_reducible rfl)
              try simp only [Act.put, List.setIfInBounds_toArray, List.set_cons_zero, List.set_cons_succ]
              refine wpAnyH_take (i := 8) (oi := { dst := Option.some 31, op := Go.Op.fieldAddr 66 (Go.Operand.tmp 7) 1, type := 0, pos := "regions.go:42", after := #[{ on := 5, ground := Go.Ground.guard }], guard := Option.some (5, Bool.false) }) (v := ?_) rfl (by kernel_rfl) (by kernel_rfl) (by kernel_rfl) (fun _ _ _ h => h) (Or.inl ⟨by rfl, ?_⟩) (by assumption) ?_
              rotate_left
              · (intro w hSw; (try dsimp only at hSw); go_simp; try with_reducible rfl)
              try simp only [Act.put, List.setIfInBounds_toArray, List.set_cons_zero, List.set_cons_succ]
              refine wpAnyH_take (i := 9) (oi := { dst := Option.some 32, op := Go.Op.load 3 (Go.Operand.tmp 31), type := 3, pos := "regions.go:42", after := #[{ on := 8, ground := Go.Ground.data }, { on := 5, ground := Go.Ground.guard }], guard := Option.some (5, Bool.false) }) (v := ?_) rfl (by kernel_rfl) (by kernel_rfl) (by kernel_rfl) (fun _ _ _ h => h) (Or.inl ⟨by rfl, ?_⟩) (by assumption) ?_
              rotate_left
              · (intro w hSw; (try dsimp only at hSw); go_simp; try with_reducible rfl)
              try simp only [Act.put, List.setIfInBounds_toArray, List.set_cons_zero, List.set_cons_succ]
              refine wpAnyH_take (i := 10) (oi := { dst := Option.some 33, op := Go.Op.load 66 (Go.Operand.tmp 7), type := 66, pos := "regions.go:42", after := #[{ on := 5, ground := Go.Ground.guard }], guard := Option.some (5, Bool.false) }) (v := ?_) rfl (by kernel_rfl) (by kernel_rfl) (by kernel_rfl) (fun _ _ _ h => h) (Or.inl ⟨by rfl, ?_⟩) (by assumption) ?_
              rotate_left
              · (intro w hSw; (try dsimp only at hSw); go_simp; try with_reducible rfl)
              try simp only [Act.put, List.setIfInBounds_toArray, List.set_cons_zero, List.set_cons_succ]
              refine wpAnyH_ready (rs := [11]) (by kernel_rfl) (by simp) ?_
              refine AllReadyH.cons (o := { dst := Option.some 34, op := Go.Op.call { callee := Go.Callee.value (Go.Operand.func 62), args := #[Go.Operand.tmp 33], argTypes := #[66] }, type := 3, pos := "regions.go:42", after := #[{ on := 10, ground := Go.Ground.data }, { on := 5, ground := Go.Ground.chain }, { on := 5, ground := Go.Ground.guard }], guard := Option.some (5, Bool.false) }) rfl (fun K hK => ?_) AllReadyH.nil
              go_simp
              (go_at_call 62; ((with_reducible refine (bytesOf_any d _ (by omega) (by omega)).mono ?_); rintro e w' ⟨rfl, hB⟩; have hz := hB.size; simp at hz; have HX := Lib.hid (((hB2.out.alloc hB2.out.size _).drew).trans (hB.mono (by simp; omega)))))
              refine hK.out _ _ ?_ (fun hHeld => ?_)
              · (try dsimp only); (go_split_ands; refine ⟨⟨?_, ?_, ?_, ?_⟩, ?_, ?_, ?_, ?_⟩ <;> (refine (hB.cell (by first | omega | (simp; done) | (simp; omega))).trans ?_; assumption))
              clear hK K
              try simp only [Act.put, List.setIfInBounds_toArray, List.set_cons_zero, List.set_cons_succ]
              refine wpAnyH_take (i := 12) (oi := { dst := Option.some 35, op := Go.Op.binOp Go.BinOp.add 3 (Go.Operand.tmp 32) (Go.Operand.tmp 34) 3, type := 3, pos := "regions.go:42", after := #[{ on := 9, ground := Go.Ground.data }, { on := 11, ground := Go.Ground.data }, { on := 5, ground := Go.Ground.guard }], guard := Option.some (5, Bool.false) }) (v := ?_) rfl (by kernel_rfl) (by kernel_rfl) (by kernel_rfl) (fun _ _ _ h => h) (Or.inl ⟨by rfl, ?_⟩) (by assumption) ?_
              rotate_left
              · (intro w hSw; (try dsimp only at hSw); go_simp; try with_reducible rfl)
              try simp only [Act.put, List.setIfInBounds_toArray, List.set_cons_zero, List.set_cons_succ]
              refine wpAnyH_take (i := 13) (oi := { dst := Option.some 36, op := Go.Op.binOp Go.BinOp.lss 3 (Go.Operand.tmp 30) (Go.Operand.tmp 35) 3, type := 4, pos := "regions.go:42", after := #[{ on := 7, ground := Go.Ground.data }, { on := 12, ground := Go.Ground.data }, { on := 5, ground := Go.Ground.guard }], guard := Option.some (5, Bool.false) }) (v := ?_) rfl (by kernel_rfl) (by kernel_rfl) (by kernel_rfl) (fun _ _ _ h => h) (Or.inl ⟨by rfl, ?_⟩) (by assumption) ?_
              rotate_left
              · (intro w hSw; (try dsimp only at hSw); go_simp; try with_reducible rfl)
              try simp only [Act.put, List.setIfInBounds_toArray, List.set_cons_zero, List.set_cons_succ]
              refine wpAnyH_take (i := 14) (oi := { dst := Option.some 37, op := Go.Op.move (Go.Operand.tmp 36), type := 4, pos := "regions.go:42", after := #[{ on := 13, ground := Go.Ground.data }, { on := 11, ground := Go.Ground.chain }, { on := 5, ground := Go.Ground.guard }], guard := Option.some (5, Bool.false) }) (v := ?_) rfl (by kernel_rfl) (by kernel_rfl) (by kernel_rfl) (fun _ _ _ h => h) (Or.inl ⟨by rfl, ?_⟩) (by assumption) ?_
              rotate_left
              · (intro w hSw; (try dsimp only at hSw); go_simp; try with_reducible rfl)
              try simp only [Act.put, List.setIfInBounds_toArray, List.set_cons_zero, List.set_cons_succ]
              refine wpAnyH_take (i := 15) (oi := { dst := Option.some 38, op := Go.Op.fieldAddr 66 (Go.Operand.tmp 7) 1, type := 0, pos := "regions.go:42", after := #[{ on := 14, ground := Go.Ground.guard }], guard := Option.some (14, Bool.true) }) (v := undef) rfl (by kernel_rfl) (by kernel_rfl) (by kernel_rfl) (fun _ _ _ h => h) (Or.inr ⟨by rfl, rfl⟩) (by assumption) ?_
              try simp only [Act.put, List.setIfInBounds_toArray, List.set_cons_zero, List.set_cons_succ]
              refine wpAnyH_take (i := 16) (oi := { dst := Option.some 39, op := Go.Op.load 3 (Go.Operand.tmp 38), type := 3, pos := "regions.go:42", after := #[{ on := 15, ground := Go.Ground.data }, { on := 14, ground := Go.Ground.guard }], guard := Option.some (14, Bool.true) }) (v := undef) rfl (by kernel_rfl) (by kernel_rfl) (by kernel_rfl) (fun _ _ _ h => h) (Or.inr ⟨by rfl, rfl⟩) (by assumption) ?_
              try simp only [Act.put, List.setIfInBounds_toArray, List.set_cons_zero, List.set_cons_succ]
              refine wpAnyH_take (i := 17) (oi := { dst := Option.some 40, op := Go.Op.fieldAddr 66 (Go.Operand.tmp 5) 1, type := 0, pos := "regions.go:42", after := #[{ on := 14, ground := Go.Ground.guard }], guard := Option.some (14, Bool.true) }) (v := undef) rfl (by kernel_rfl) (by kernel_rfl) (by kernel_rfl) (fun _ _ _ h => h) (Or.inr ⟨by rfl, rfl⟩) (by assumption) ?_
              try simp only [Act.put, List.setIfInBounds_toArray, List.set_cons_zero, List.set_cons_succ]
              refine wpAnyH_take (i := 18) (oi := { dst := Option.some 41, op := Go.Op.load 3 (Go.Operand.tmp 40), type := 3, pos := "regions.go:42", after := #[{ on := 17, ground := Go.Ground.data }, { on := 14, ground := Go.Ground.guard }], guard := Option.some (14, Bool.true) }) (v := undef) rfl (by kernel_rfl) (by kernel_rfl) (by kernel_rfl) (fun _ _ _ h => h) (Or.inr ⟨by rfl, rfl⟩) (by assumption) ?_
              try simp only [Act.put, List.setIfInBounds_toArray, List.set_cons_zero, List.set_cons_succ]
              refine wpAnyH_take (i := 19) (oi := { dst := Option.some 42, op := Go.Op.load 66 (Go.Operand.tmp 5), type := 66, pos := "regions.go:42", after := #[{ on := 14, ground := Go.Ground.guard }], guard := Option.some (14, Bool.true) }) (v := undef) rfl (by kernel_rfl) (by kernel_rfl) (by kernel_rfl) (fun _ _ _ h => h) (Or.inr ⟨by rfl, rfl⟩) (by assumption) ?_
              try simp only [Act.put, List.setIfInBounds_toArray, List.set_cons_zero, List.set_cons_succ]
              refine wpAnyH_take (i := 20) (oi := { dst := Option.some 43, op := Go.Op.call { callee := Go.Callee.value (Go.Operand.func 62), args := #[Go.Operand.tmp 42], argTypes := #[66] }, type := 3, pos := "regions.go:42", after := #[{ on := 19, ground := Go.Ground.data }, { on := 14, ground := Go.Ground.chain }, { on := 14, ground := Go.Ground.guard }], guard := Option.some (14, Bool.true) }) (v := undef) rfl (by kernel_rfl) (by kernel_rfl) (by kernel_rfl) (fun _ _ _ h => h) (Or.inr ⟨by rfl, rfl⟩) (by assumption) ?_
              try simp only [Act.put, List.setIfInBounds_toArray, List.set_cons_zero, List.set_cons_succ]
              refine wpAnyH_take (i := 21) (oi := { dst := Option.some 44, op := Go.Op.binOp Go.BinOp.add 3 (Go.Operand.tmp 41) (Go.Operand.tmp 43) 3, type := 3, pos := "regions.go:42", after := #[{ on := 18, ground := Go.Ground.data }, { on := 20, ground := Go.Ground.data }, { on := 14, ground := Go.Ground.guard }], guard := Option.some (14, Bool.true) }) (v := undef) rfl (by kernel_rfl) (by kernel_rfl) (by kernel_rfl) (fun _ _ _ h => h) (Or.inr ⟨by rfl, rfl⟩) (by assumption) ?_
              try simp only [Act.put, List.setIfInBounds_toArray, List.set_cons_zero, List.set_cons_succ]
              refine wpAnyH_take (i := 22) (oi := { dst := Option.some 45, op := Go.Op.binOp Go.BinOp.lss 3 (Go.Operand.tmp 39) (Go.Operand.tmp 44) 3, type := 4, pos := "regions.go:42", after := #[{ on := 16, ground := Go.Ground.data }, { on := 21, ground := Go.Ground.data }, { on := 14, ground := Go.Ground.guard }], guard := Option.some (14, Bool.true) }) (v := undef) rfl (by kernel_rfl) (by kernel_rfl) (by kernel_rfl) (fun _ _ _ h => h) (Or.inr ⟨by rfl, rfl⟩) (by assumption) ?_
              try simp only [Act.put, List.setIfInBounds_toArray, List.set_cons_zero, List.set_cons_succ]
              refine wpAnyH_take (i := 23) (oi := { dst := Option.some 46, op := Go.Op.pick (Go.Operand.tmp 37) (Go.Operand.tmp 45) (Go.Operand.const (Go.Value.bool Bool.false)), type := 4, pos := "regions.go:42", after := #[{ on := 14, ground := Go.Ground.data }, { on := 22, ground := Go.Ground.data }, { on := 5, ground := Go.Ground.guard }], guard := Option.some (5, Bool.false) }) (v := ?_) rfl (by kernel_rfl) (by kernel_rfl) (by kernel_rfl) (fun _ _ _ h => h) (Or.inl ⟨by rfl, ?_⟩) (by assumption) ?_
              rotate_left
              · (intro w hSw; (try dsimp only at hSw); go_simp; try with_reducible rfl)
              try simp only [Act.put, List.setIfInBounds_toArray, List.set_cons_zero, List.set_cons_succ]
              refine wpAnyH_take (i := 24) (oi := { dst := Option.some 47, op := Go.Op.pick (Go.Operand.tmp 28) (Go.Operand.const (Go.Value.bool Bool.true)) (Go.Operand.tmp 46), type := 4, pos := "regions.go:42", after := #[{ on := 5, ground := Go.Ground.data }, { on := 23, ground := Go.Ground.data }], guard := Option.none }) (v := ?_) rfl (by kernel_rfl) (by kernel_rfl) (by kernel_rfl) (fun _ _ _ h => h) (Or.inl ⟨by rfl, ?_⟩) (by assumption) ?_
              rotate_left
              · (intro w hSw; (try dsimp only at hSw); go_simp; try with_reducible rfl)
              try simp only [Act.put, List.setIfInBounds_toArray, List.set_cons_zero, List.set_cons_succ]
              refine wpAnyH_done (by kernel_rfl) ?_ _
              have HV := Lib.hid (show RgV _ r wo.heap.size from hHeld.1)
              have HN : Hid ((ds1 ++ [d]).any (fun d => r.meets d) = false) := by
                have h0 := hN.out
                rw [name_eq] at hn
                show List.any _ _ = _
                rw [List.any_append, h0]
                simp [Rg.meets, hn, h1]
              go_wp2_with fail
              go_roundg ds2.length
              case measure => omega
              case rel => exact ⟨ds1 ++ [d], ds2, rfl, by rw [List.length_append]; go_num, Lib.hid (by rw [hE2.out]; simp), rfl, by simp; omega, HN, HX, by omega, HV.out⟩
            | true =>
              cases h2 : decide (d.addr < r.addr + r.size * 8) with
              | false =>
                go_wp2_with fail
                go_region_held3 (fun w' => (w'.cell? ⟨wo.heap.size, 0, none⟩ = some (.string r.name) ∧ w'.cell? ⟨wo.heap.size, 1, none⟩ = some (.int .i64 r.addr) ∧ w'.cell? ⟨wo.heap.size, 2, none⟩ = some (.int .i64 r.size) ∧ w'.cell? ⟨wo.heap.size, 3, none⟩ = some (.bool r.sec)) ∧ w'.cell? ⟨wr.heap.size, 0, none⟩ = some (.string d.name) ∧ w'.cell? ⟨wr.heap.size, 1, none⟩ = some (.int .i64 d.addr) ∧ w'.cell? ⟨wr.heap.size, 2, none⟩ = some (.int .i64 d.size) ∧ w'.cell? ⟨wr.heap.size, 3, none⟩ = some (.bool d.sec))
                  (first | go_keep | (go_split_ands; refine ⟨⟨?_, ?_, ?_, ?_⟩, ?_, ?_, ?_, ?_⟩ <;> (refine (hB.cell (by first | omega | (simp; done) | (simp; omega))).trans ?_; assumption)))
                  (first | (go_at_call 62; ((with_reducible refine (bytesOf_any d _ (by omega) (by omega)).mono ?_); rintro e w' ⟨rfl, hB⟩; have hz := hB.size; simp at hz; have HX := Lib.hid (((hB2.out.alloc hB2.out.size _).drew).trans (hB.mono (by simp; omega))))) | (go_at_call 62; ((with_reducible refine (bytesOf_any r _ (by omega) (by omega)).mono ?_); rintro e w' ⟨rfl, hB⟩; have HY := Lib.hid (HX.out.trans (hB.mono (by omega))))))
                rename_i hHd
                have HV := Lib.hid (show RgV _ r wo.heap.size from hHd.1)
                have HN : Hid ((ds1 ++ [d]).any (fun d => r.meets d) = false) := by
                  have h0 := hN.out
                  rw [name_eq] at hn
                  show List.any _ _ = _
                  rw [List.any_append, h0]
                  simp [Rg.meets, hn, h1, h2]
                have hz2 := hB.size
                go_wp2_with fail
                go_roundg ds2.length
                case measure => omega
                case rel => exact ⟨ds1 ++ [d], ds2, rfl, by rw [List.length_append]; go_num, Lib.hid (by rw [hE2.out]; simp), rfl, by simp; omega, HN, HY, by omega, HV.out⟩
              | true =>
                go_wp2_with fail
                go_region_held3 (fun w' => (w'.cell? ⟨wo.heap.size, 0, none⟩ = some (.string r.name) ∧ w'.cell? ⟨wo.heap.size, 1, none⟩ = some (.int .i64 r.addr) ∧ w'.cell? ⟨wo.heap.size, 2, none⟩ = some (.int .i64 r.size) ∧ w'.cell? ⟨wo.heap.size, 3, none⟩ = some (.bool r.sec)) ∧ w'.cell? ⟨wr.heap.size, 0, none⟩ = some (.string d.name) ∧ w'.cell? ⟨wr.heap.size, 1, none⟩ = some (.int .i64 d.addr) ∧ w'.cell? ⟨wr.heap.size, 2, none⟩ = some (.int .i64 d.size) ∧ w'.cell? ⟨wr.heap.size, 3, none⟩ = some (.bool d.sec))
                  (first | go_keep | (go_split_ands; refine ⟨⟨?_, ?_, ?_, ?_⟩, ?_, ?_, ?_, ?_⟩ <;> (refine (hB.cell (by first | omega | (simp; done) | (simp; omega))).trans ?_; assumption)))
                  (first | (go_at_call 62; ((with_reducible refine (bytesOf_any d _ (by omega) (by omega)).mono ?_); rintro e w' ⟨rfl, hB⟩; have hz := hB.size; simp at hz; have HX := Lib.hid (((hB2.out.alloc hB2.out.size _).drew).trans (hB.mono (by simp; omega))))) | (go_at_call 62; ((with_reducible refine (bytesOf_any r _ (by omega) (by omega)).mono ?_); rintro e w' ⟨rfl, hB⟩; have HY := Lib.hid (HX.out.trans (hB.mono (by omega))))))
                have HM : Hid (meetAny [] l = true) := by
                  show _ = _
                  rw [hI.out]
                  exact meet_yes hE2.out (by simp [Rg.meets, h1, h2])
                go_wp2_with fail
                try rw [Exit.noGoto_ret]
                go_ret
                exact ⟨ret_bool HM.out.symm, HY.out⟩
end Go.Proofs.Ytajjpaabkdgjbaa
