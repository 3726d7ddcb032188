/- L4, L5 as one. -/
import Derived.Test.YtnghehcjklkoeaaL3
/- the deep programs. -/
namespace Go.Proofs.Ytnghehcjklkoeaa
open Go.RowKit

def nest : Nat → Ex
  | 0 => .mk 2 0 [120] .nil
  | k + 1 => .mk 4 0 [] (.cons (nest k) .nil)
def sn : Nat → Sts
  | 0 => .nil
  | k + 1 => .cons (mkSt 3 [] (.mk 1 0 [] .nil) (sn k)) .nil
theorem d1 : mayR (oneP (.cons (mkSt 1 [120] (nest 63) .nil) .nil)) = 0 := by kernel_rfl
theorem d2 : mayR (oneP (.cons (mkSt 1 [120] (nest 64) .nil) .nil)) = 12 := by kernel_rfl
theorem d3 : mayR (oneP (sn 64)) = 0 := by kernel_rfl
theorem d4 : mayR (oneP (sn 65)) = 12 := by kernel_rfl
theorem d5 : mayR (onePz .nil 512) = 0 := by kernel_rfl
theorem d6 : mayR (onePz .nil 513) = 13 := by kernel_rfl
theorem nest_word (k : Nat) : (nest k).word = 0 := by cases k <;> rfl
end Go.Proofs.Ytnghehcjklkoeaa
/- ScopeDeep: the walk. -/
namespace Go.Proofs.Ytnghehcjklkoeaa
open Go.RowKit

/-- an expression's cell: what it holds lies behind it -/
structure ExB (w : World) (g : Nat) (e : Ex) (p : Option Addr) (c : Nat) : Prop where
  b : w.heap[g]? = some (.cells #[.int .i64 e.op, .int .u64 (e.word : Int), .string (str e.name), .slice p e.args.len c] 42 (0, 0))
  i : ∀ W : World, (∀ j, g < j → j < w.heap.size → W.heap[j]? = w.heap[j]?) → e.args.In W w.heap.size p
def wrap (w1 : World) (g b : Nat) : World := ((((w1.setCell ⟨g, 0, none⟩ (.int .i64 4)).setCell ⟨g, 1, none⟩ (.int .u64 0)).setCell ⟨g, 2, none⟩ (.string { data := #[] })).setCell ⟨g, 3, none⟩ (.slice (some ⟨b, 0, none⟩) 1 1))
theorem wrap_other (w1 : World) (g b j : Nat) (h : j ≠ g) : (wrap w1 g b).heap[j]? = w1.heap[j]? := by
  unfold wrap
  rw [Below.heap_setCell _ _ _ _ h, Below.heap_setCell _ _ _ _ h, Below.heap_setCell _ _ _ _ h, Below.heap_setCell _ _ _ _ h]
theorem exb_step {wr w1 : World} {g k c : Nat} {p : Option Addr} {t : TypeId} (h : ExB wr g (nest k) p c) (hg : g < wr.heap.size) (kr : w1.heap[wr.heap.size]? = some (.cells #[.int .i64 (nest k).op, .int .u64 ((nest k).word : Int), .string (str (nest k).name), .slice p (nest k).args.len c] t (0, 0))) (hB1 : Below wr.heap.size wr w1) (hz1 : w1.heap.size = wr.heap.size + 1) :
    ExB (wrap w1 g wr.heap.size) g (nest (k + 1)) (some ⟨wr.heap.size, 0, none⟩) 1 := by
  have hs : w1.heap.size ≤ (wrap w1 g wr.heap.size).heap.size := (below_set4 (Below.refl 0 w1) (Nat.zero_le _) _ _ _ _).size
  refine ⟨set4 ((hB1.block _ hg).trans h.b) _ _ _ _, fun W hW => ⟨show 1 ≤ 140737488355328 by decide, .inr ⟨wr.heap.size, 0, rfl, by omega, ?_, trivial⟩⟩⟩
  have hb : W.heap[wr.heap.size]? = _ := (hW _ hg (by omega)).trans ((wrap_other w1 g _ _ (by omega)).trans kr)
  have hi := h.i W fun j h1 h2 => (hW j h1 (by omega)).trans ((wrap_other w1 g _ _ (by omega)).trans (hB1.block _ h2))
  have v0 := cell_blk hb (j := 0) rfl
  have v1 := cell_blk hb (j := 1) rfl
  have v2 := cell_blk hb (j := 2) rfl
  have v3 := cell_blk hb (j := 3) rfl
  have hw := nest_word k
  generalize nest k = e at v0 v1 v2 v3 hi hw ⊢
  obtain ⟨op, wd, en, as'⟩ := e
  exact ⟨⟨v0, v1, v2, by have : wd = 0 := hw; omega⟩, ⟨p, c, v3, hi.later (Below.refl _ _) (by omega)⟩⟩
/-- one statement of the call's own, then May -/
theorem one_stm (kd : Int) (nm : List UInt8) (e : Ex) (p : Option Addr) (c : Nat) (bd : Sts) (pb : Option Addr) (cb : Nat) (r : Nat) (W : World) (hr : mayR (oneP (.cons (mkSt kd nm e bd) .nil)) = r) (hv : e.word < 18446744073709551616) (he : e.args.In W W.heap.size p) (hb : bd.In W W.heap.size pb) :
    Calls Try.prog 15 #[.slice (some ⟨W.heap.size, 0, none⟩) 1 1] (W.alloc (.cells #[.int .i64 kd, .string (str nm), .slice none 0 0, .int .i64 e.op, .int .u64 (e.word : Int), .string (str e.name), .slice p e.args.len c, .int .i64 0, .int .u64 0, .string (str []), .slice none 0 0, .slice none 0 0, .int .u64 0, .int .u64 0, .slice pb bd.len cb, .slice none 0 0] 49)) fun z w' =>
      z = .returned (.agg #[.slice none 0 0, .slice (some ⟨W.heap.size + 1 + 1 + 1, 0, none⟩) 1 1]) ∧
      Calls Try.prog 14 #[.agg #[.slice none 0 0, .slice (some ⟨W.heap.size + 1 + 1 + 1, 0, none⟩) 1 1]] w' (fun z w'' => z = .returned (.int .i64 (r : Int)) ∧ Below w'.heap.size w' w'') ∧ Below W.heap.size W w' := by
  obtain ⟨w5, hw5, kr, hB5, hz5⟩ := one_alloc W (.cells #[.int .i64 kd, .string (str nm), .slice none 0 0, .int .i64 e.op, .int .u64 (e.word : Int), .string (str e.name), .slice p e.args.len c, .int .i64 0, .int .u64 0, .string (str []), .slice none 0 0, .slice none 0 0, .int .u64 0, .int .u64 0, .slice pb bd.len cb, .slice none 0 0] 49)
  rw [hw5]
  have hl : Sts.In w5 (W.heap.size + 1) (.cons (mkSt kd nm e bd) .nil) (some ⟨W.heap.size, 0, none⟩) := st_in (pe := p) (ce := c) (pb := pb) (cb := cb) kr (Nat.lt_succ_self _) hv (he.later hB5 (Nat.le_succ _)) (hb.later hB5 (Nat.le_succ _))
  refine (one_any (.cons (mkSt kd nm e bd) .nil) (some ⟨W.heap.size, 0, none⟩) 1 w5).mono ?_
  rintro z w6 ⟨rfl, hA, hs, hB⟩
  have hM := may_one _ _ 1 (W.heap.size + 1) r w5 w6 hr hA hs hB hl (by omega)
  rw [hz5] at hM ⊢
  exact ⟨rfl, hM, hB5.trans (hB.mono (by omega))⟩
theorem ex_in {w1 : World} {b N : Nat} {e : Ex} {p : Option Addr} {c : Nat} {t : TypeId} (kr : w1.heap[b]? = some (.cells #[.int .i64 e.op, .int .u64 (e.word : Int), .string (str e.name), .slice p e.args.len c] t (0, 0))) (hw : e.word < 18446744073709551616) (hi : e.args.In w1 N p) (hb : b < N) : (Exs.cons e .nil).In w1 N (some ⟨b, 0, none⟩) := by
  have v0 := cell_blk kr (j := 0) rfl
  have v1 := cell_blk kr (j := 1) rfl
  have v2 := cell_blk kr (j := 2) rfl
  have v3 := cell_blk kr (j := 3) rfl
  obtain ⟨op, wd, en, as'⟩ := e
  exact ⟨show 1 ≤ 140737488355328 by decide, .inr ⟨b, 0, rfl, hb, ⟨⟨v0, v1, v2, hw⟩, ⟨p, c, v3, hi⟩⟩, trivial⟩⟩
theorem OneAt.put {w : World} {g : Nat} {l : Sts} {q : Option Addr} {c : Nat} {z : Int} (h : OneAt w g l q c z) (z' : Int) : OneAt (w.setCell ⟨g + 1, 6, none⟩ (.int .i64 z')) g l q c z' := by
  refine ⟨?_, (Below.heap_setCell _ _ _ _ (show g + 1 + 1 ≠ g + 1 by omega)).trans h.f⟩
  rw [setCell_eq_setRow _ _ 6 _ _ (0, 0) _ h.v]; exact setRow_heap _ _ _ _ _ (0, 0) h.v
theorem may_z (z : Int) (r g : Nat) (w : World) (hr : mayR (onePz .nil z) = r) (hA : OneAt w g .nil none 0 z) (hs : g + 1 + 1 + 1 ≤ w.heap.size) :
    Calls Try.prog 14 #[.agg #[.slice none 0 0, .slice (some ⟨g + 1 + 1, 0, none⟩) 1 1]] w fun z w' => z = .returned (.int .i64 (r : Int)) ∧ Below w.heap.size w w' :=
  may_of (onePz .nil z) (oneS g) w.heap.size r w hr ((hA.ok (N := 0) ⟨Nat.zero_le _, .inl rfl⟩ (Nat.zero_le _)).later (Below.refl _ _) hs) (Nat.le_refl _) (Nat.zero_le _) (Nat.le_refl 1)
set_option maxRecDepth 100000 in
set_option maxHeartbeats 12800000 in
theorem deep_any (w : World) :
    Calls Try.prog 5 #[] w fun z w' => z = .returned (.bool true) ∧ Below w.heap.size w w' := by
  obtain ⟨W0, hW0, k0, hB0, hz0⟩ := one_alloc w (.cells #[.int .i64 2, .int .u64 0, .string { data := #[120] }, .slice none 0 0] 42)
  have HS := Lib.hid (show ∃ p c, ExB W0 w.heap.size (nest 0) p c from ⟨none, 0, k0, fun _ _ => ⟨Nat.zero_le _, .inl rfl⟩⟩)
  have HB0 := Lib.hid (show Below w.heap.size w W0 ∧ w.heap.size < W0.heap.size from ⟨hB0, by omega⟩)
  have HW0 := Lib.hid hW0
  clear hW0 k0 hB0 hz0
  go_enter Try.func5, Try.ntmps5
  go_wp2_with fail
  erw [HW0.out]
  go_loopw [2] (fun i wr => ∃ (k : Nat) (p : Option Addr) (c : Nat), i = .int .i64 (k : Int) ∧ k ≤ 63 ∧ Hid (ExB wr w.heap.size (nest k) p c) ∧ Hid (Below w.heap.size w wr ∧ w.heap.size < wr.heap.size)) (fun i _ => 63 - (intOf i).toNat)
  case atStart =>
    obtain ⟨p, c, h⟩ := HS.out
    exact ⟨0, p, c, rfl, by omega, Lib.hid h, HB0⟩
  case round =>
    obtain ⟨k, p, c, rfl, hk, hE, hB⟩ := hrel
    obtain ⟨w1, hw1, kr, hB1, hz1⟩ := one_alloc wr (.cells #[.int .i64 (nest k).op, .int .u64 ((nest k).word : Int), .string (str (nest k).name), .slice p (nest k).args.len c] 42)
    have c0 : wr.cell? ⟨w.heap.size, 0, none⟩ = some (.int .i64 (nest k).op) := cell_blk hE.out.b rfl
    have c1 : wr.cell? ⟨w.heap.size, 1, none⟩ = some (.int .u64 ((nest k).word : Int)) := cell_blk hE.out.b rfl
    have c2 : wr.cell? ⟨w.heap.size, 2, none⟩ = some (.string (str (nest k).name)) := cell_blk hE.out.b rfl
    have c3 : wr.cell? ⟨w.heap.size, 3, none⟩ = some (.slice p (nest k).args.len c) := cell_blk hE.out.b rfl
    rcases Nat.lt_or_ge k 63 with hlt | hge
    · have k1 := (hB1.block _ hB.out.2).trans hE.out.b
      have z0 : w1.cell? ⟨w.heap.size, 0, none⟩ = some (.int .i64 (nest k).op) := cell_blk k1 rfl
      have z1 : w1.cell? ⟨w.heap.size, 1, none⟩ = some (.int .u64 ((nest k).word : Int)) := cell_blk k1 rfl
      have z2 : w1.cell? ⟨w.heap.size, 2, none⟩ = some (.string (str (nest k).name)) := cell_blk k1 rfl
      have z3 : w1.cell? ⟨w.heap.size, 3, none⟩ = some (.slice p (nest k).args.len c) := cell_blk k1 rfl
      have hfz : ∀ j, w1.frozen? ⟨w.heap.size, j, none⟩ = false := fun j => by simp [World.frozen?, k1]
      have f0 := hfz 0
      have f1 := hfz 1
      have f2 := hfz 2
      have f3 := hfz 3
      have hlti : (k : Int) < 63 := by omega
      have HK1 := Lib.hid k1
      have HKr := Lib.hid kr
      have HB1 := Lib.hid hB1
      have HZ1 := Lib.hid hz1
      clear k1 hfz kr hB1 hz1
      go_wp2_with fail
      have HF := Lib.hid (exb_step hE.out hB.out.2 HKr.out HB1.out HZ1.out)
      have HG := Lib.hid (show Below w.heap.size w (wrap w1 w.heap.size wr.heap.size) ∧ w.heap.size < (wrap w1 w.heap.size wr.heap.size).heap.size from ⟨below_set4 (hB.out.1.trans (HB1.out.mono (Nat.le_of_lt hB.out.2))) (Nat.le_refl _) _ _ _ _, Nat.lt_of_lt_of_le (by have := HZ1.out; have := hB.out.2; omega) (below_set4 (Below.refl 0 w1) (Nat.zero_le _) _ _ _ _).size⟩)
      refine ⟨⟨k + 1, _, _, by go_num, hlt, HF, HG⟩, ?_⟩
      simp [intOf]; omega
    · have hk63 : k = 63 := by omega
      subst hk63
      clear hw1 kr hB1 hz1 hk
      have HD1 := Lib.hid (And.intro d1 d2)
      have HW := Lib.hid (nest_word 63)
      have HN := Lib.hid (show nest 64 = .mk 4 0 [] (.cons (nest 63) .nil) from rfl)
      generalize nest 63 = e at c0 c1 c2 c3 hE HD1 HW HN
      have HI := Lib.hid (hE.out.i wr fun _ _ _ => rfl)
      have HV := Lib.hid (show e.word < 18446744073709551616 by rw [HW.out]; decide)
      go_wp2_with fail
      refine (one_stm 1 [120] e p c .nil none 0 0 wr HD1.out.1 HV.out HI.out ⟨Nat.zero_le _, .inl rfl⟩).mono ?_
      rintro z w2 ⟨rfl, hM, hB2⟩
      have HM := Lib.hid hM
      have HX2 := Lib.hid hB2
      clear c0 c1 c2 c3 hM hB2
      go_wp2_with fail
      refine HM.out.mono ?_
      rintro z w3 ⟨rfl, hB3⟩
      have HX3 := Lib.hid (HX2.out.trans (hB3.mono HX2.out.size))
      have k3 := (HX3.out.block _ hB.out.2).trans hE.out.b
      have c0 : w3.cell? ⟨w.heap.size, 0, none⟩ = some (.int .i64 e.op) := cell_blk k3 rfl
      have c1 : w3.cell? ⟨w.heap.size, 1, none⟩ = some (.int .u64 (e.word : Int)) := cell_blk k3 rfl
      have c2 : w3.cell? ⟨w.heap.size, 2, none⟩ = some (.string (str e.name)) := cell_blk k3 rfl
      have c3 : w3.cell? ⟨w.heap.size, 3, none⟩ = some (.slice p e.args.len c) := cell_blk k3 rfl
      obtain ⟨w4, hw4, kr, hB4, hz4⟩ := one_alloc w3 (.cells #[.int .i64 e.op, .int .u64 (e.word : Int), .string (str e.name), .slice p e.args.len c] 42)
      have HX4 := Lib.hid (HX3.out.trans (hB4.mono HX3.out.size))
      have HIn := Lib.hid (ex_in (N := w4.heap.size) kr HV.out (HI.out.later HX4.out HX4.out.size) (lt_blk kr))
      clear k3 hB3 kr hB4 HM
      have HZ4 := Lib.hid hz4
      clear hz4
      go_wp2_with fail
      refine (one_stm 1 [120] (.mk 4 0 [] (.cons e .nil)) (some ⟨w3.heap.size, 0, none⟩) 1 .nil none 0 12 w4 (by rw [← HN.out]; exact HD1.out.2) (show 0 < 18446744073709551616 by decide) HIn.out ⟨Nat.zero_le _, .inl rfl⟩).mono ?_
      rintro z w5 ⟨rfl, hM, hB5⟩
      have HM := Lib.hid hM
      have HX5 := Lib.hid (HX4.out.trans (hB5.mono HX4.out.size))
      clear c0 c1 c2 c3 hM hB5 hw4
      go_wp2_with fail
      refine HM.out.mono ?_
      rintro z w6 ⟨rfl, hB6⟩
      have HX6 := Lib.hid (hB.out.1.trans ((HX5.out.trans (hB6.mono HX5.out.size)).mono (Nat.le_of_lt hB.out.2)))
      clear hB6 HM HIn HX5 HX4 HX3 HX2 hE HI HV HZ4 HN HW HD1
      go_wp2_with fail
      go_loopw [5, 6] (fun l i wr => ∃ (k : Nat) (p : Option Addr), l = .slice p (sn k).len (sn k).len ∧ i = .int .i64 (k : Int) ∧ k ≤ 64 ∧ Hid ((sn k).In wr wr.heap.size p) ∧ Hid (Below w.heap.size w wr)) (fun l i _ => 64 - (intOf i).toNat)
      case atStart => exact ⟨0, none, rfl, rfl, by omega, Lib.hid ⟨Nat.zero_le _, .inl rfl⟩, HX6⟩
      case round =>
        obtain ⟨k, q, rfl, rfl, hk, hI, hX⟩ := hrel
        rcases Nat.lt_or_ge k 64 with hlt | hge
        · obtain ⟨v1, hv1, kr, hB1, hz1⟩ := one_alloc wr (.cells #[.int .i64 3, .string { data := #[] }, .slice none 0 0, .int .i64 1, .int .u64 0, .string { data := #[] }, .slice none 0 0, .int .i64 0, .int .u64 0, .string { data := #[] }, .slice none 0 0, .slice none 0 0, .int .u64 0, .int .u64 0, .slice q (sn k).len (sn k).len, .slice none 0 0] 49)
          have hlti : (k : Int) < 64 := by omega
          have HIn := Lib.hid (show (sn (k + 1)).In v1 v1.heap.size (some ⟨wr.heap.size, 0, none⟩) from st_in (kd := 3) (nm := []) (e := .mk 1 0 [] .nil) (bd := sn k) (pe := none) (ce := 0) (pb := q) (cb := (sn k).len) kr (lt_blk kr) (by decide) ⟨Nat.zero_le _, .inl rfl⟩ (hI.out.later hB1 hB1.size))
          have HX1 := Lib.hid (hX.out.trans (hB1.mono hX.out.size))
          clear kr hB1 hz1
          go_wp2_with fail
          refine ⟨⟨k + 1, _, rfl, by go_num, hlt, HIn, HX1⟩, ?_⟩
          simp [intOf]; omega
        · have hk64 : k = 64 := by omega
          subst hk64
          have HD := Lib.hid (And.intro d3 d4)
          have HN := Lib.hid (show sn 65 = .cons (mkSt 3 [] (.mk 1 0 [] .nil) (sn 64)) .nil from rfl)
          generalize sn 64 = l at hI HD HN ⊢
          clear hk
          go_wp2_with fail
          refine (one_any l q l.len wr).mono ?_
          rintro z v2 ⟨rfl, hA, hs, hB2⟩
          have HM := Lib.hid (may_one l q l.len wr.heap.size 0 wr v2 HD.out.1 hA hs hB2 hI.out (Nat.le_refl _))
          have HX2 := Lib.hid hB2
          clear hA hs hB2
          go_wp2_with fail
          refine HM.out.mono ?_
          rintro z v3 ⟨rfl, hB3⟩
          have HX3 := Lib.hid (HX2.out.trans (hB3.mono HX2.out.size))
          clear hB3 HM
          go_wp2_with fail
          refine (one_stm 3 [] (.mk 1 0 [] .nil) none 0 l q l.len 12 v3 (by rw [← HN.out]; exact HD.out.2) (show 0 < 18446744073709551616 by decide) ⟨Nat.zero_le _, .inl rfl⟩ (hI.out.later HX3.out HX3.out.size)).mono ?_
          rintro z v4 ⟨rfl, hM, hB4⟩
          have HM := Lib.hid hM
          have HX4 := Lib.hid (HX3.out.trans (hB4.mono HX3.out.size))
          clear hM hB4
          go_wp2_with fail
          refine HM.out.mono ?_
          rintro z v5 ⟨rfl, hB5⟩
          have HX5 := Lib.hid (hX.out.trans ((HX4.out.trans (hB5.mono HX4.out.size)).mono hX.out.size))
          clear hB5 HM HX4 HX3 HX2 HD HN hI
          go_wp2_with fail
          refine (one_any .nil none 0 v5).mono ?_
          rintro z v6 ⟨rfl, hA, hs, hB6⟩
          have HX6 := Lib.hid (HX5.out.trans (hB6.mono HX5.out.size))
          obtain ⟨v7, hv7, kr, hB7, hz7⟩ := one_alloc v6 (.cells #[.slice none 0 0, .slice (some ⟨v5.heap.size + 1 + 1, 0, none⟩) 1 1] 25)
          have HX7 := Lib.hid (HX6.out.trans (hB7.mono HX6.out.size))
          have hA7 := hA.later hB7 (Nat.le_of_eq hs.symm)
          have HA7 := Lib.hid hA7
          have HS7 := Lib.hid (show v5.heap.size + 1 + 1 + 1 = v6.heap.size ∧ v7.heap.size = v6.heap.size + 1 from ⟨hs.symm, hz7⟩)
          have HK7 := Lib.hid kr
          have p1 : v7.cell? ⟨v6.heap.size, 1, none⟩ = some (.slice (some ⟨v5.heap.size + 1 + 1, 0, none⟩) 1 1) := cell_blk kr rfl
          have p2 : v7.cell? ⟨v5.heap.size + 1 + 1, 2, none⟩ = some (.slice (some ⟨v5.heap.size + 1, 0, none⟩) 2 2) := cell_blk hA7.f rfl
          have p3 : v7.cell? ⟨v5.heap.size + 1, 6, none⟩ = some (.int .i64 2) := cell_blk hA7.v rfl
          have f3 : v7.frozen? ⟨v5.heap.size + 1, 6, none⟩ = false := by simp [World.frozen?, hA7.v]
          clear hA hs hB6 kr hB7 hz7 hA7
          go_upto_region 17 with fail
          obtain ⟨v8, hv8⟩ : ∃ x, x = v7.setCell ⟨v5.heap.size + 1, 6, none⟩ (.int .i64 512) := ⟨_, rfl⟩
          rw [← hv8]
          have HA8 := Lib.hid (show OneAt v8 v5.heap.size .nil none 0 512 from hv8 ▸ HA7.out.put 512)
          have HK8 := Lib.hid (show v8.heap[v6.heap.size]? = some (.cells #[.slice none 0 0, .slice (some ⟨v5.heap.size + 1 + 1, 0, none⟩) 1 1] 25 (0, 0)) from by rw [hv8]; exact (Below.heap_setCell _ _ _ _ (show v6.heap.size ≠ v5.heap.size + 1 by have := HS7.out.1; omega)).trans HK7.out)
          have HX8 := Lib.hid (show Below w.heap.size w v8 ∧ v7.heap.size ≤ v8.heap.size from by
            rw [hv8]
            exact ⟨HX7.out.setCell (p := ⟨v5.heap.size + 1, 6, none⟩) (Nat.le_trans HX5.out.size (Nat.le_succ _)) _, Nat.le_trans (Nat.le_refl _) ((Below.refl 0 v7).setCell (p := ⟨v5.heap.size + 1, 6, none⟩) (Nat.zero_le _) _).size⟩)
          have HM := Lib.hid (may_z 512 0 v5.heap.size v8 d5 HA8.out (by have := HS7.out; have := HX8.out.2; omega))
          have y0 := cell_blk HK8.out (j := 0) rfl
          have y1 : v8.cell? ⟨v6.heap.size, 1, none⟩ = some (.slice (some ⟨v5.heap.size + 1 + 1, 0, none⟩) 1 1) := cell_blk HK8.out rfl
          have z0 : v8.cell? ⟨v6.heap.size, 0, none⟩ = some (.slice none 0 0) := y0
          clear y0 p1 p2 p3 f3 hv8
          go_wp2_with fail
          refine HM.out.mono ?_
          rintro z v9 ⟨rfl, hB⟩
          have HX9 := Lib.hid (show Below w.heap.size w v9 ∧ v7.heap.size ≤ v9.heap.size from ⟨HX8.out.1.trans (hB.mono HX8.out.1.size), Nat.le_trans HX8.out.2 hB.size⟩)
          have hlt6 : v6.heap.size < v8.heap.size := by have := HS7.out; have := HX8.out.2; omega
          have HK9 := Lib.hid ((hB.block _ hlt6).trans HK8.out)
          have hA9 := HA8.out.later hB (by have := HS7.out; omega)
          have HA9 := Lib.hid hA9
          have p1 : v9.cell? ⟨v6.heap.size, 1, none⟩ = some (.slice (some ⟨v5.heap.size + 1 + 1, 0, none⟩) 1 1) := cell_blk HK9.out rfl
          have p2 : v9.cell? ⟨v5.heap.size + 1 + 1, 2, none⟩ = some (.slice (some ⟨v5.heap.size + 1, 0, none⟩) 2 2) := cell_blk hA9.f rfl
          have p3 : v9.cell? ⟨v5.heap.size + 1, 6, none⟩ = some (.int .i64 512) := cell_blk hA9.v rfl
          have f3 : v9.frozen? ⟨v5.heap.size + 1, 6, none⟩ = false := by simp [World.frozen?, hA9.v]
          clear z0 y1 hB hlt6 hA9 HM
          go_upto_region 19 with fail
          obtain ⟨v10, hv10⟩ : ∃ x, x = v9.setCell ⟨v5.heap.size + 1, 6, none⟩ (.int .i64 513) := ⟨_, rfl⟩
          rw [← hv10]
          have HA10 := Lib.hid (show OneAt v10 v5.heap.size .nil none 0 513 from hv10 ▸ HA9.out.put 513)
          have HK10 := Lib.hid (show v10.heap[v6.heap.size]? = some (.cells #[.slice none 0 0, .slice (some ⟨v5.heap.size + 1 + 1, 0, none⟩) 1 1] 25 (0, 0)) from by rw [hv10]; exact (Below.heap_setCell _ _ _ _ (show v6.heap.size ≠ v5.heap.size + 1 by have := HS7.out.1; omega)).trans HK9.out)
          have HX10 := Lib.hid (show Below w.heap.size w v10 ∧ v7.heap.size ≤ v10.heap.size from by
            rw [hv10]
            exact ⟨HX9.out.1.setCell (p := ⟨v5.heap.size + 1, 6, none⟩) (Nat.le_trans HX5.out.size (Nat.le_succ _)) _, Nat.le_trans HX9.out.2 ((Below.refl 0 v9).setCell (p := ⟨v5.heap.size + 1, 6, none⟩) (Nat.zero_le _) _).size⟩)
          have HM := Lib.hid (may_z 513 13 v5.heap.size v10 d6 HA10.out (by have := HS7.out; have := HX10.out.2; omega))
          have y0 := cell_blk HK10.out (j := 0) rfl
          have y1 : v10.cell? ⟨v6.heap.size, 1, none⟩ = some (.slice (some ⟨v5.heap.size + 1 + 1, 0, none⟩) 1 1) := cell_blk HK10.out rfl
          have z0 : v10.cell? ⟨v6.heap.size, 0, none⟩ = some (.slice none 0 0) := y0
          clear y0 p1 p2 p3 f3 hv10
          go_wp2_with fail
          refine HM.out.mono ?_
          rintro z v11 ⟨rfl, hB⟩
          have HX11 := Lib.hid (show Below w.heap.size w v11 ∧ v7.heap.size ≤ v11.heap.size from ⟨HX10.out.1.trans (hB.mono HX10.out.1.size), Nat.le_trans HX10.out.2 hB.size⟩)
          have hlt6 : v6.heap.size < v10.heap.size := by have := HS7.out; have := HX10.out.2; omega
          have HK11 := Lib.hid ((hB.block _ hlt6).trans HK10.out)
          have hA11 := HA10.out.later hB (by have := HS7.out; omega)
          have HA11 := Lib.hid hA11
          have p1 : v11.cell? ⟨v6.heap.size, 1, none⟩ = some (.slice (some ⟨v5.heap.size + 1 + 1, 0, none⟩) 1 1) := cell_blk HK11.out rfl
          have p2 : v11.cell? ⟨v5.heap.size + 1 + 1, 2, none⟩ = some (.slice (some ⟨v5.heap.size + 1, 0, none⟩) 2 2) := cell_blk hA11.f rfl
          have p3 : v11.cell? ⟨v5.heap.size + 1, 6, none⟩ = some (.int .i64 513) := cell_blk hA11.v rfl
          have f3 : v11.frozen? ⟨v5.heap.size + 1, 6, none⟩ = false := by simp [World.frozen?, hA11.v]
          clear z0 y1 hB hlt6 hA11 HM
          clear p1 p2 p3 f3
          have HKn := Lib.hid (known_any v11)
          go_wp2_with fail
          refine HKn.out.mono ?_
          rintro z v12 ⟨rfl, hB⟩
          have HX12 := Lib.hid (HX11.out.1.trans (hB.mono HX11.out.1.size))
          clear hB
          go_wp2_with fail
          go_ret
          exact ⟨rfl, HX12.out⟩
end Go.Proofs.Ytnghehcjklkoeaa
