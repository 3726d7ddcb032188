/- A place; the kind of a name; words and arrays. -/
import Derived.Test.YtnghehcjklkoeaaF1
import Derived.Test.YtnghehcjklkoeaaJ2
namespace Go.Proofs.Ytnghehcjklkoeaa
open Go.RowKit

structure Plc where
  (pb fi mb : Nat) (ar : List (List UInt8)) (ap : Option Addr) (ac deep : Nat)
def Plc.v (t : Plc) : Value := .agg #[.pointer (some ⟨t.pb, 0, none⟩), .int .i64 (t.fi : Int), .map (some t.mb), .slice t.ap t.ar.length t.ac, .int .i64 (t.deep : Int)]
def Plc.obj (t : Plc) : Obj := .cells #[.pointer (some ⟨t.pb, 0, none⟩), .int .i64 (t.fi : Int), .map (some t.mb), .slice t.ap t.ar.length t.ac, .int .i64 (t.deep : Int)] 80 (0, 0)
/-- all that a place speaks of lies there -/
structure PlOk (w : World) (N : Nat) (x : Prg) (s : PrgP) (fn : Fnc) (f : List UInt8 → Nat) (t : Plc) : Prop where
  pb : w.heap[t.pb]? = some (.cells #[.slice s.p x.regs.length s.c, .slice s.q x.fns.length s.d] 25 (0, 0))
  ok : x.Ok w N s.p s.q
  fi : x.fns[t.fi]? = some fn
  mp : Cm w t.mb f
  ar : RowIn w.heap.size (StrAt w) 1 t.ar t.ap
  cap : t.ar.length ≤ t.ac
  hN : N ≤ w.heap.size
theorem PlOk.later {w w' : World} {N : Nat} {x : Prg} {s : PrgP} {fn : Fnc} {f : List UInt8 → Nat} {t : Plc} (h : PlOk w N x s fn f t) (hB : Below w.heap.size w w') : PlOk w' N x s fn f t :=
  ⟨(hB.block _ (lt_blk h.pb)).trans h.pb, h.ok.later (hB.mono h.hN) (Nat.le_refl N), h.fi, h.mp.later hB, h.ar.imp hB.size (StrAt.later hB), h.cap, Nat.le_trans h.hN hB.size⟩
set_option maxRecDepth 100000 in
set_option maxHeartbeats 6400000 in
theorem kindOf_any (x : Prg) (s : PrgP) (fn : Fnc) (f : List UInt8 → Nat) (t : Plc) (nm : List UInt8) (N : Nat) (w : World) (h : PlOk w N x s fn f t) :
    Calls Try.prog 99 #[t.v, .string (str nm)] w fun z w' => z = (if (found x fn nm).2.1 then .returned (.int .i64 (found x fn nm).1.kind) else Pn 8) ∧ Below w.heap.size w w' := by
  obtain ⟨W0, hW0, k0, hB0, hz0⟩ := one_alloc w t.obj
  have h' := h.later hB0
  have HFi := Lib.hid (fun (W : World) (hB : Below W0.heap.size W0 W) => find_any x s t.fi fn nm N W ((h'.later hB).ok) (h'.later hB).hN h'.fi)
  have HB0 := Lib.hid hB0
  have HW0 := Lib.hid hW0
  have c0 : W0.cell? ⟨w.heap.size, 0, none⟩ = some (.pointer (some ⟨t.pb, 0, none⟩)) := cell_blk k0 rfl
  have c1 : W0.cell? ⟨w.heap.size, 1, none⟩ = some (.int .i64 (t.fi : Int)) := cell_blk k0 rfl
  have p0 : W0.cell? ⟨t.pb, 0, none⟩ = some (.slice s.p x.regs.length s.c) := cell_blk h'.pb rfl
  have p1 : W0.cell? ⟨t.pb, 1, none⟩ = some (.slice s.q x.fns.length s.d) := cell_blk h'.pb rfl
  obtain ⟨⟨v, is, rg⟩, hr⟩ : ∃ r, found x fn nm = r := ⟨_, rfl⟩
  rw [hr] at HFi ⊢
  unfold Plc.obj at HW0
  unfold foundV vrV Prg.v at HFi
  unfold Plc.v
  have HLt : w.heap.size < W0.heap.size ∧ t.pb < W0.heap.size := ⟨by omega, lt_blk h'.pb⟩
  clear h h' hW0 k0 hB0 hz0 hr
  go_enter Try.func99, Try.ntmps99
  go_upto_region 1 with fail
  rw [HW0.out]
  have HL := Lib.hid (show w.heap.size < W0.heap.size ∧ t.pb < W0.heap.size from HLt)
  clear HLt
  cases is with
  | true =>
    have HS : Below W0.heap.size W0 W0.drew := (Below.refl _ _).drew
    refine wp_region_held_drew (S := fun W => Below W0.heap.size W0 W ∧ W.cell? ⟨w.heap.size, 0, none⟩ = some (.pointer (some ⟨t.pb, 0, none⟩)) ∧ W.cell? ⟨w.heap.size, 1, none⟩ = some (.int .i64 (t.fi : Int)) ∧ W.cell? ⟨t.pb, 0, none⟩ = some (.slice s.p x.regs.length s.c) ∧ W.cell? ⟨t.pb, 1, none⟩ = some (.slice s.q x.fns.length s.d)) (by kernel_rfl) ?_ (fun hHeld => ?_)
    · exact ⟨HS, (HS.cell (p := ⟨w.heap.size, 0, none⟩) HL.out.1).trans c0, (HS.cell (p := ⟨w.heap.size, 1, none⟩) HL.out.1).trans c1, (HS.cell (p := ⟨t.pb, 0, none⟩) HL.out.2).trans p0, (HS.cell (p := ⟨t.pb, 1, none⟩) HL.out.2).trans p1⟩
    refine tk 0 ?_ rfl (.inl ⟨by rfl, ?_⟩) ?_
    rotate_left
    · (intro w hSw; (try dsimp only at hSw); go_simp; try with_reducible rfl)
    try simp only [Act.put, List.setIfInBounds_toArray, List.set_cons_zero, List.set_cons_succ]
    refine tk 1 ?_ rfl (.inl ⟨by rfl, ?_⟩) ?_
    rotate_left
    · (intro w hSw; (try dsimp only at hSw); go_simp; try with_reducible rfl)
    try simp only [Act.put, List.setIfInBounds_toArray, List.set_cons_zero, List.set_cons_succ]
    refine tk 2 ?_ rfl (.inl ⟨by rfl, ?_⟩) ?_
    rotate_left
    · (intro w hSw; (try dsimp only at hSw); go_simp; try with_reducible rfl)
    try simp only [Act.put, List.setIfInBounds_toArray, List.set_cons_zero, List.set_cons_succ]
    refine tk 3 ?_ rfl (.inl ⟨by rfl, ?_⟩) ?_
    rotate_left
    · (intro w hSw; (try dsimp only at hSw); go_simp; try with_reducible rfl)
    try simp only [Act.put, List.setIfInBounds_toArray, List.set_cons_zero, List.set_cons_succ]
    refine tk 4 ?_ rfl (.inl ⟨by rfl, ?_⟩) ?_
    rotate_left
    · (intro w hSw; (try dsimp only at hSw); go_simp; try with_reducible rfl)
    try simp only [Act.put, List.setIfInBounds_toArray, List.set_cons_zero, List.set_cons_succ]
    refine tk 5 ?_ rfl (.inl ⟨by rfl, ?_⟩) ?_
    rotate_left
    · (intro w hSw; (try dsimp only at hSw); go_simp; try with_reducible rfl)
    try simp only [Act.put, List.setIfInBounds_toArray, List.set_cons_zero, List.set_cons_succ]
    refine tk 6 ?_ rfl (.inl ⟨by rfl, ?_⟩) ?_
    rotate_left
    · (intro w hSw; (try dsimp only at hSw); go_simp; try with_reducible rfl)
    try simp only [Act.put, List.setIfInBounds_toArray, List.set_cons_zero, List.set_cons_succ]
    refine wpAnyH_ready (rs := [7, 12]) (by kernel_rfl) (by simp) ?_
    refine rdy rfl (fun K hK => ?_) (rdy rfl (fun K hK => ?_) AllReadyH.nil)
    · go_simp
      refine (HFi.out _ HS).mono ?_
      rintro z w1 ⟨rfl, hB1⟩
      replace HS := HS.trans (hB1.mono HS.size)
      refine hK.out _ _ ?_ (fun hHeld => ?_)
      · exact ⟨HS, (HS.cell (p := ⟨w.heap.size, 0, none⟩) HL.out.1).trans c0, (HS.cell (p := ⟨w.heap.size, 1, none⟩) HL.out.1).trans c1, (HS.cell (p := ⟨t.pb, 0, none⟩) HL.out.2).trans p0, (HS.cell (p := ⟨t.pb, 1, none⟩) HL.out.2).trans p1⟩
      clear hK K
      try simp only
      refine tk 8 ?_ rfl (.inl ⟨by rfl, ?_⟩) ?_
      rotate_left
      · (intro w hSw; (try dsimp only at hSw); go_simp; try with_reducible rfl)
      try simp only [Act.put, List.setIfInBounds_toArray, List.set_cons_zero, List.set_cons_succ]
      refine tk 9 ?_ rfl (.inl ⟨by rfl, ?_⟩) ?_
      rotate_left
      · (intro w hSw; (try dsimp only at hSw); go_simp; try with_reducible rfl)
      try simp only [Act.put, List.setIfInBounds_toArray, List.set_cons_zero, List.set_cons_succ]
      refine tk 10 ?_ rfl (.inl ⟨by rfl, ?_⟩) ?_
      rotate_left
      · (intro w hSw; (try dsimp only at hSw); go_simp; try with_reducible rfl)
      try simp only [Act.put, List.setIfInBounds_toArray, List.set_cons_zero, List.set_cons_succ]
      refine tk 11 ?_ rfl (.inl ⟨by rfl, ?_⟩) ?_
      rotate_left
      · (intro w hSw; (try dsimp only at hSw); go_simp; try with_reducible rfl)
      try simp only [Act.put, List.setIfInBounds_toArray, List.set_cons_zero, List.set_cons_succ]
      refine wpAnyH_ready (rs := [12]) (by kernel_rfl) (by simp) ?_
      refine rdy rfl (fun K hK => ?_) AllReadyH.nil
      go_simp
      have HSa := HS.alloc HS.size (.cells #[.string ⟨#[]⟩, .int .i64 0, .int .i64 0, .bool false] 52)
      refine hK.out _ _ ?_ (fun hHeld => ?_)
      · exact ⟨HSa, (HSa.cell (p := ⟨w.heap.size, 0, none⟩) HL.out.1).trans c0, (HSa.cell (p := ⟨w.heap.size, 1, none⟩) HL.out.1).trans c1, (HSa.cell (p := ⟨t.pb, 0, none⟩) HL.out.2).trans p0, (HSa.cell (p := ⟨t.pb, 1, none⟩) HL.out.2).trans p1⟩
      clear hK K
      try simp only [Act.put, List.setIfInBounds_toArray, List.set_cons_zero, List.set_cons_succ]
      refine wpAnyH_ready (rs := [13]) (by kernel_rfl) (by simp) ?_
      refine rdy rfl (fun K hK => ?_) AllReadyH.nil
      go_simp
      have hst := HS.alloc HS.size (.cells #[.string (str v.name), .int .i64 v.kind, .int .i64 v.size, .bool v.secret] 52)
      replace HS := hst
      clear hst
      refine hK.out _ _ ?_ (fun hHeld => ?_)
      · exact ⟨HS, (HS.cell (p := ⟨w.heap.size, 0, none⟩) HL.out.1).trans c0, (HS.cell (p := ⟨w.heap.size, 1, none⟩) HL.out.1).trans c1, (HS.cell (p := ⟨t.pb, 0, none⟩) HL.out.2).trans p0, (HS.cell (p := ⟨t.pb, 1, none⟩) HL.out.2).trans p1⟩
      clear hK K
      try simp only [Act.put, List.setIfInBounds_toArray, List.set_cons_zero, List.set_cons_succ]
      refine tk 14 ?_ rfl (.inl ⟨by rfl, ?_⟩) ?_
      rotate_left
      · (intro w hSw; (try dsimp only at hSw); go_simp; try with_reducible rfl)
      try simp only [Act.put, List.setIfInBounds_toArray, List.set_cons_zero, List.set_cons_succ]
      refine tk 15 ?_ rfl (.inl ⟨by rfl, ?_⟩) ?_
      rotate_left
      · (intro w hSw; (try dsimp only at hSw); go_simp; try with_reducible rfl)
      try simp only [Act.put, List.setIfInBounds_toArray, List.set_cons_zero, List.set_cons_succ]
      refine wpAnyH_done (by kernel_rfl) ?_ _
      clear c0 c1 p0 p1
      go_wp2_with (go_at_call 57; refine (must_yes 8 _).mono ?_; rintro e w' ⟨rfl, hw⟩; subst hw)
      go_ret
      exact ⟨rfl, HB0.out.trans (HS.mono HB0.out.size)⟩
    · go_simp
      replace HS := HS.alloc HS.size (.cells #[.string ⟨#[]⟩, .int .i64 0, .int .i64 0, .bool false] 52)
      refine hK.out _ _ ?_ (fun hHeld => ?_)
      · exact ⟨HS, (HS.cell (p := ⟨w.heap.size, 0, none⟩) HL.out.1).trans c0, (HS.cell (p := ⟨w.heap.size, 1, none⟩) HL.out.1).trans c1, (HS.cell (p := ⟨t.pb, 0, none⟩) HL.out.2).trans p0, (HS.cell (p := ⟨t.pb, 1, none⟩) HL.out.2).trans p1⟩
      clear hK K
      try simp only [Act.put, List.setIfInBounds_toArray, List.set_cons_zero, List.set_cons_succ]
      refine wpAnyH_ready (rs := [7]) (by kernel_rfl) (by simp) ?_
      refine rdy rfl (fun K hK => ?_) AllReadyH.nil
      go_simp
      refine (HFi.out _ HS).mono ?_
      rintro z w1 ⟨rfl, hB1⟩
      have hz : w1.heap[W0.heap.size]? = some (.cells #[.string ⟨#[]⟩, .int .i64 0, .int .i64 0, .bool false] 52 (0, 0)) := (hB1.block W0.heap.size (by simp)).trans (heap_alloc_new W0.drew _)
      replace HS := HS.trans (hB1.mono HS.size)
      have q0 := cell_blk hz (j := 0) rfl
      have q1 := cell_blk hz (j := 1) rfl
      have q2 := cell_blk hz (j := 2) rfl
      have q3 := cell_blk hz (j := 3) rfl
      have hfz : ∀ j, w1.frozen? ⟨W0.heap.size, j, none⟩ = false := fun j => by simp [World.frozen?, hz]
      have z0 := hfz 0
      have z1 := hfz 1
      have z2 := hfz 2
      have z3 := hfz 3
      clear hfz
      refine hK.out _ _ ?_ (fun hHeld => ?_)
      · exact ⟨HS, (HS.cell (p := ⟨w.heap.size, 0, none⟩) HL.out.1).trans c0, (HS.cell (p := ⟨w.heap.size, 1, none⟩) HL.out.1).trans c1, (HS.cell (p := ⟨t.pb, 0, none⟩) HL.out.2).trans p0, (HS.cell (p := ⟨t.pb, 1, none⟩) HL.out.2).trans p1⟩
      clear hK K
      try simp only
      refine tk 8 ?_ rfl (.inl ⟨by rfl, ?_⟩) ?_
      rotate_left
      · (intro w hSw; (try dsimp only at hSw); go_simp; try with_reducible rfl)
      try simp only [Act.put, List.setIfInBounds_toArray, List.set_cons_zero, List.set_cons_succ]
      refine tk 9 ?_ rfl (.inl ⟨by rfl, ?_⟩) ?_
      rotate_left
      · (intro w hSw; (try dsimp only at hSw); go_simp; try with_reducible rfl)
      try simp only [Act.put, List.setIfInBounds_toArray, List.set_cons_zero, List.set_cons_succ]
      refine tk 10 ?_ rfl (.inl ⟨by rfl, ?_⟩) ?_
      rotate_left
      · (intro w hSw; (try dsimp only at hSw); go_simp; try with_reducible rfl)
      try simp only [Act.put, List.setIfInBounds_toArray, List.set_cons_zero, List.set_cons_succ]
      refine tk 11 ?_ rfl (.inl ⟨by rfl, ?_⟩) ?_
      rotate_left
      · (intro w hSw; (try dsimp only at hSw); go_simp; try with_reducible rfl)
      try simp only [Act.put, List.setIfInBounds_toArray, List.set_cons_zero, List.set_cons_succ]
      refine wpAnyH_ready (rs := [13]) (by kernel_rfl) (by simp) ?_
      refine rdy rfl (fun K hK => ?_) AllReadyH.nil
      go_simp
      replace HS := below_set4 HS (Nat.le_refl W0.heap.size) (.string (str v.name)) (.int .i64 v.kind) (.int .i64 v.size) (.bool v.secret)
      refine hK.out _ _ ?_ (fun hHeld => ?_)
      · exact ⟨HS, (HS.cell (p := ⟨w.heap.size, 0, none⟩) HL.out.1).trans c0, (HS.cell (p := ⟨w.heap.size, 1, none⟩) HL.out.1).trans c1, (HS.cell (p := ⟨t.pb, 0, none⟩) HL.out.2).trans p0, (HS.cell (p := ⟨t.pb, 1, none⟩) HL.out.2).trans p1⟩
      clear hK K
      try simp only [Act.put, List.setIfInBounds_toArray, List.set_cons_zero, List.set_cons_succ]
      refine tk 14 ?_ rfl (.inl ⟨by rfl, ?_⟩) ?_
      rotate_left
      · (intro w hSw; (try dsimp only at hSw); go_simp; try with_reducible rfl)
      try simp only [Act.put, List.setIfInBounds_toArray, List.set_cons_zero, List.set_cons_succ]
      refine tk 15 ?_ rfl (.inl ⟨by rfl, ?_⟩) ?_
      rotate_left
      · (intro w hSw; (try dsimp only at hSw); go_simp; try with_reducible rfl)
      try simp only [Act.put, List.setIfInBounds_toArray, List.set_cons_zero, List.set_cons_succ]
      refine wpAnyH_done (by kernel_rfl) ?_ _
      clear c0 c1 p0 p1
      go_wp2_with (go_at_call 57; refine (must_yes 8 _).mono ?_; rintro e w' ⟨rfl, hw⟩; subst hw)
      go_ret
      exact ⟨rfl, HB0.out.trans (HS.mono HB0.out.size)⟩
  | false =>
    have HS : Below W0.heap.size W0 W0.drew := (Below.refl _ _).drew
    refine wp_region_held_drew (S := fun W => Below W0.heap.size W0 W ∧ W.cell? ⟨w.heap.size, 0, none⟩ = some (.pointer (some ⟨t.pb, 0, none⟩)) ∧ W.cell? ⟨w.heap.size, 1, none⟩ = some (.int .i64 (t.fi : Int)) ∧ W.cell? ⟨t.pb, 0, none⟩ = some (.slice s.p x.regs.length s.c) ∧ W.cell? ⟨t.pb, 1, none⟩ = some (.slice s.q x.fns.length s.d)) (by kernel_rfl) ?_ (fun hHeld => ?_)
    · exact ⟨HS, (HS.cell (p := ⟨w.heap.size, 0, none⟩) HL.out.1).trans c0, (HS.cell (p := ⟨w.heap.size, 1, none⟩) HL.out.1).trans c1, (HS.cell (p := ⟨t.pb, 0, none⟩) HL.out.2).trans p0, (HS.cell (p := ⟨t.pb, 1, none⟩) HL.out.2).trans p1⟩
    refine tk 0 ?_ rfl (.inl ⟨by rfl, ?_⟩) ?_
    rotate_left
    · (intro w hSw; (try dsimp only at hSw); go_simp; try with_reducible rfl)
    try simp only [Act.put, List.setIfInBounds_toArray, List.set_cons_zero, List.set_cons_succ]
    refine tk 1 ?_ rfl (.inl ⟨by rfl, ?_⟩) ?_
    rotate_left
    · (intro w hSw; (try dsimp only at hSw); go_simp; try with_reducible rfl)
    try simp only [Act.put, List.setIfInBounds_toArray, List.set_cons_zero, List.set_cons_succ]
    refine tk 2 ?_ rfl (.inl ⟨by rfl, ?_⟩) ?_
    rotate_left
    · (intro w hSw; (try dsimp only at hSw); go_simp; try with_reducible rfl)
    try simp only [Act.put, List.setIfInBounds_toArray, List.set_cons_zero, List.set_cons_succ]
    refine tk 3 ?_ rfl (.inl ⟨by rfl, ?_⟩) ?_
    rotate_left
    · (intro w hSw; (try dsimp only at hSw); go_simp; try with_reducible rfl)
    try simp only [Act.put, List.setIfInBounds_toArray, List.set_cons_zero, List.set_cons_succ]
    refine tk 4 ?_ rfl (.inl ⟨by rfl, ?_⟩) ?_
    rotate_left
    · (intro w hSw; (try dsimp only at hSw); go_simp; try with_reducible rfl)
    try simp only [Act.put, List.setIfInBounds_toArray, List.set_cons_zero, List.set_cons_succ]
    refine tk 5 ?_ rfl (.inl ⟨by rfl, ?_⟩) ?_
    rotate_left
    · (intro w hSw; (try dsimp only at hSw); go_simp; try with_reducible rfl)
    try simp only [Act.put, List.setIfInBounds_toArray, List.set_cons_zero, List.set_cons_succ]
    refine tk 6 ?_ rfl (.inl ⟨by rfl, ?_⟩) ?_
    rotate_left
    · (intro w hSw; (try dsimp only at hSw); go_simp; try with_reducible rfl)
    try simp only [Act.put, List.setIfInBounds_toArray, List.set_cons_zero, List.set_cons_succ]
    refine wpAnyH_ready (rs := [7, 12]) (by kernel_rfl) (by simp) ?_
    refine rdy rfl (fun K hK => ?_) (rdy rfl (fun K hK => ?_) AllReadyH.nil)
    · go_simp
      refine (HFi.out _ HS).mono ?_
      rintro z w1 ⟨rfl, hB1⟩
      replace HS := HS.trans (hB1.mono HS.size)
      refine hK.out _ _ ?_ (fun hHeld => ?_)
      · exact ⟨HS, (HS.cell (p := ⟨w.heap.size, 0, none⟩) HL.out.1).trans c0, (HS.cell (p := ⟨w.heap.size, 1, none⟩) HL.out.1).trans c1, (HS.cell (p := ⟨t.pb, 0, none⟩) HL.out.2).trans p0, (HS.cell (p := ⟨t.pb, 1, none⟩) HL.out.2).trans p1⟩
      clear hK K
      try simp only
      refine tk 8 ?_ rfl (.inl ⟨by rfl, ?_⟩) ?_
      rotate_left
      · (intro w hSw; (try dsimp only at hSw); go_simp; try with_reducible rfl)
      try simp only [Act.put, List.setIfInBounds_toArray, List.set_cons_zero, List.set_cons_succ]
      refine tk 9 ?_ rfl (.inl ⟨by rfl, ?_⟩) ?_
      rotate_left
      · (intro w hSw; (try dsimp only at hSw); go_simp; try with_reducible rfl)
      try simp only [Act.put, List.setIfInBounds_toArray, List.set_cons_zero, List.set_cons_succ]
      refine tk 10 ?_ rfl (.inl ⟨by rfl, ?_⟩) ?_
      rotate_left
      · (intro w hSw; (try dsimp only at hSw); go_simp; try with_reducible rfl)
      try simp only [Act.put, List.setIfInBounds_toArray, List.set_cons_zero, List.set_cons_succ]
      refine tk 11 ?_ rfl (.inl ⟨by rfl, ?_⟩) ?_
      rotate_left
      · (intro w hSw; (try dsimp only at hSw); go_simp; try with_reducible rfl)
      try simp only [Act.put, List.setIfInBounds_toArray, List.set_cons_zero, List.set_cons_succ]
      refine wpAnyH_ready (rs := [12]) (by kernel_rfl) (by simp) ?_
      refine rdy rfl (fun K hK => ?_) AllReadyH.nil
      go_simp
      have HSa := HS.alloc HS.size (.cells #[.string ⟨#[]⟩, .int .i64 0, .int .i64 0, .bool false] 52)
      refine hK.out _ _ ?_ (fun hHeld => ?_)
      · exact ⟨HSa, (HSa.cell (p := ⟨w.heap.size, 0, none⟩) HL.out.1).trans c0, (HSa.cell (p := ⟨w.heap.size, 1, none⟩) HL.out.1).trans c1, (HSa.cell (p := ⟨t.pb, 0, none⟩) HL.out.2).trans p0, (HSa.cell (p := ⟨t.pb, 1, none⟩) HL.out.2).trans p1⟩
      clear hK K
      try simp only [Act.put, List.setIfInBounds_toArray, List.set_cons_zero, List.set_cons_succ]
      refine wpAnyH_ready (rs := [13]) (by kernel_rfl) (by simp) ?_
      refine rdy rfl (fun K hK => ?_) AllReadyH.nil
      go_simp
      have hst := HS.alloc HS.size (.cells #[.string (str v.name), .int .i64 v.kind, .int .i64 v.size, .bool v.secret] 52)
      replace HS := hst
      clear hst
      refine hK.out _ _ ?_ (fun hHeld => ?_)
      · exact ⟨HS, (HS.cell (p := ⟨w.heap.size, 0, none⟩) HL.out.1).trans c0, (HS.cell (p := ⟨w.heap.size, 1, none⟩) HL.out.1).trans c1, (HS.cell (p := ⟨t.pb, 0, none⟩) HL.out.2).trans p0, (HS.cell (p := ⟨t.pb, 1, none⟩) HL.out.2).trans p1⟩
      clear hK K
      try simp only [Act.put, List.setIfInBounds_toArray, List.set_cons_zero, List.set_cons_succ]
      refine tk 14 ?_ rfl (.inl ⟨by rfl, ?_⟩) ?_
      rotate_left
      · (intro w hSw; (try dsimp only at hSw); go_simp; try with_reducible rfl)
      try simp only [Act.put, List.setIfInBounds_toArray, List.set_cons_zero, List.set_cons_succ]
      refine tk 15 ?_ rfl (.inl ⟨by rfl, ?_⟩) ?_
      rotate_left
      · (intro w hSw; (try dsimp only at hSw); go_simp; try with_reducible rfl)
      try simp only [Act.put, List.setIfInBounds_toArray, List.set_cons_zero, List.set_cons_succ]
      refine wpAnyH_done (by kernel_rfl) ?_ _
      clear c0 c1 p0 p1
      go_wp2_with (go_at_call 57; refine (must_no 8 _).mono ?_; rintro e w' ⟨rfl, hw⟩; subst hw; unfold Pn)
      exact ⟨rfl, rfl, HB0.out.trans (HS.mono HB0.out.size)⟩
    · go_simp
      replace HS := HS.alloc HS.size (.cells #[.string ⟨#[]⟩, .int .i64 0, .int .i64 0, .bool false] 52)
      refine hK.out _ _ ?_ (fun hHeld => ?_)
      · exact ⟨HS, (HS.cell (p := ⟨w.heap.size, 0, none⟩) HL.out.1).trans c0, (HS.cell (p := ⟨w.heap.size, 1, none⟩) HL.out.1).trans c1, (HS.cell (p := ⟨t.pb, 0, none⟩) HL.out.2).trans p0, (HS.cell (p := ⟨t.pb, 1, none⟩) HL.out.2).trans p1⟩
      clear hK K
      try simp only [Act.put, List.setIfInBounds_toArray, List.set_cons_zero, List.set_cons_succ]
      refine wpAnyH_ready (rs := [7]) (by kernel_rfl) (by simp) ?_
      refine rdy rfl (fun K hK => ?_) AllReadyH.nil
      go_simp
      refine (HFi.out _ HS).mono ?_
      rintro z w1 ⟨rfl, hB1⟩
      have hz : w1.heap[W0.heap.size]? = some (.cells #[.string ⟨#[]⟩, .int .i64 0, .int .i64 0, .bool false] 52 (0, 0)) := (hB1.block W0.heap.size (by simp)).trans (heap_alloc_new W0.drew _)
      replace HS := HS.trans (hB1.mono HS.size)
      have q0 := cell_blk hz (j := 0) rfl
      have q1 := cell_blk hz (j := 1) rfl
      have q2 := cell_blk hz (j := 2) rfl
      have q3 := cell_blk hz (j := 3) rfl
      have hfz : ∀ j, w1.frozen? ⟨W0.heap.size, j, none⟩ = false := fun j => by simp [World.frozen?, hz]
      have z0 := hfz 0
      have z1 := hfz 1
      have z2 := hfz 2
      have z3 := hfz 3
      clear hfz
      refine hK.out _ _ ?_ (fun hHeld => ?_)
      · exact ⟨HS, (HS.cell (p := ⟨w.heap.size, 0, none⟩) HL.out.1).trans c0, (HS.cell (p := ⟨w.heap.size, 1, none⟩) HL.out.1).trans c1, (HS.cell (p := ⟨t.pb, 0, none⟩) HL.out.2).trans p0, (HS.cell (p := ⟨t.pb, 1, none⟩) HL.out.2).trans p1⟩
      clear hK K
      try simp only
      refine tk 8 ?_ rfl (.inl ⟨by rfl, ?_⟩) ?_
      rotate_left
      · (intro w hSw; (try dsimp only at hSw); go_simp; try with_reducible rfl)
      try simp only [Act.put, List.setIfInBounds_toArray, List.set_cons_zero, List.set_cons_succ]
      refine tk 9 ?_ rfl (.inl ⟨by rfl, ?_⟩) ?_
      rotate_left
      · (intro w hSw; (try dsimp only at hSw); go_simp; try with_reducible rfl)
      try simp only [Act.put, List.setIfInBounds_toArray, List.set_cons_zero, List.set_cons_succ]
      refine tk 10 ?_ rfl (.inl ⟨by rfl, ?_⟩) ?_
      rotate_left
      · (intro w hSw; (try dsimp only at hSw); go_simp; try with_reducible rfl)
      try simp only [Act.put, List.setIfInBounds_toArray, List.set_cons_zero, List.set_cons_succ]
      refine tk 11 ?_ rfl (.inl ⟨by rfl, ?_⟩) ?_
      rotate_left
      · (intro w hSw; (try dsimp only at hSw); go_simp; try with_reducible rfl)
      try simp only [Act.put, List.setIfInBounds_toArray, List.set_cons_zero, List.set_cons_succ]
      refine wpAnyH_ready (rs := [13]) (by kernel_rfl) (by simp) ?_
      refine rdy rfl (fun K hK => ?_) AllReadyH.nil
      go_simp
      replace HS := below_set4 HS (Nat.le_refl W0.heap.size) (.string (str v.name)) (.int .i64 v.kind) (.int .i64 v.size) (.bool v.secret)
      refine hK.out _ _ ?_ (fun hHeld => ?_)
      · exact ⟨HS, (HS.cell (p := ⟨w.heap.size, 0, none⟩) HL.out.1).trans c0, (HS.cell (p := ⟨w.heap.size, 1, none⟩) HL.out.1).trans c1, (HS.cell (p := ⟨t.pb, 0, none⟩) HL.out.2).trans p0, (HS.cell (p := ⟨t.pb, 1, none⟩) HL.out.2).trans p1⟩
      clear hK K
      try simp only [Act.put, List.setIfInBounds_toArray, List.set_cons_zero, List.set_cons_succ]
      refine tk 14 ?_ rfl (.inl ⟨by rfl, ?_⟩) ?_
      rotate_left
      · (intro w hSw; (try dsimp only at hSw); go_simp; try with_reducible rfl)
      try simp only [Act.put, List.setIfInBounds_toArray, List.set_cons_zero, List.set_cons_succ]
      refine tk 15 ?_ rfl (.inl ⟨by rfl, ?_⟩) ?_
      rotate_left
      · (intro w hSw; (try dsimp only at hSw); go_simp; try with_reducible rfl)
      try simp only [Act.put, List.setIfInBounds_toArray, List.set_cons_zero, List.set_cons_succ]
      refine wpAnyH_done (by kernel_rfl) ?_ _
      clear c0 c1 p0 p1
      go_wp2_with (go_at_call 57; refine (must_no 8 _).mono ?_; rintro e w' ⟨rfl, hw⟩; subst hw; unfold Pn)
      exact ⟨rfl, rfl, HB0.out.trans (HS.mono HB0.out.size)⟩
end Go.Proofs.Ytnghehcjklkoeaa
