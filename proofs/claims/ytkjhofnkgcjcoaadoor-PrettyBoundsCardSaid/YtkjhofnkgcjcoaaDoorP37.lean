/- A function's first line. -/
import Derived.Test.YtkjhofnkgcjcoaaDoorP36
import Derived.WalkMore
import Derived.Deep.CutBlock
import Derived.Deep.CutRange
import Derived.Test.YtkjhofnkgcjcoaaDoorP23
namespace Go.Proofs.YtkjhofnkgcjcoaaDoor
open Go.RowKit

theorem make_strs (n : Nat) (hn : n ≤ 1000000) : ∃ Z : Array Value, (∀ w : World, (Instr.makeSlice 32 (.int .i64 n) (.int .i64 n)).run Tryd.prog w = .ok (.slice (some ⟨w.heap.size, 0, none⟩) n n) (w.alloc (.cells Z 9 (0, 0)))) ∧ ∀ j, j < n → Z[j]? = some (.string ⟨#[]⟩) := by
  obtain ⟨i0, hi, hz0, hz1, hz2⟩ := info_parts info_str
  refine ⟨madeCells #[.string ⟨#[]⟩] n, fun w => ?_, fun j hj => ?_⟩
  · have h := run_make (P := Tryd.prog) w 32 9 i0 (.string ⟨#[]⟩) Tryd.underlying32 hi hz0 .i64 .i64 n n (by omega) (by omega) (by rw [hz2]; omega) (by omega)
    rw [hz1, Nat.mul_one] at h
    exact h
  · have h := toList_madeCells_one (.string ⟨#[]⟩) n
    rw [← Array.getElem?_toList, h, List.getElem?_replicate, if_pos hj]
/-- the texts so far -/
def OutP (w : World) (g k : Nat) (ts : List (List UInt8)) : Prop :=
  g < w.heap.size ∧ ∀ i t, ts[i]? = some t → ∃ u, w.cell? ⟨g, i, none⟩ = some u ∧ w.frozen? ⟨g, i, none⟩ = false ∧ (i < k → u = .string (str t))
theorem OutP.later {w w' : World} {g k : Nat} {ts : List (List UInt8)} (h : OutP w g k ts) (hB : Below w.heap.size w w') : OutP w' g k ts :=
  ⟨Nat.lt_of_lt_of_le h.1 hB.size, fun i t ht => by
    obtain ⟨u, h1, h2, h3⟩ := h.2 i t ht
    exact ⟨u, (hB.cell (p := ⟨g, i, none⟩) h.1).trans h1, (hB.frozen (p := ⟨g, i, none⟩) h.1).trans h2, h3⟩⟩
theorem OutP.put {w : World} {g k : Nat} {ts : List (List UInt8)} {t : List UInt8} (h : OutP w g k ts) (hk : ts[k]? = some t) : OutP (w.setCell ⟨g, k, none⟩ (.string (str t))) g (k + 1) ts := by
  refine ⟨by simp [World.setCell]; exact h.1, fun i t' ht => ?_⟩
  obtain ⟨u, h1, h2, h3⟩ := h.2 i t' ht
  by_cases e : i = k
  · subst e
    rw [hk] at ht; cases ht
    exact ⟨_, World.cell?_setCell_same _ _ _ h1, by rw [World.frozen?_setCell]; exact h2, fun _ => rfl⟩
  · refine ⟨u, ?_, by rw [World.frozen?_setCell]; exact h2, fun hik => h3 (by omega)⟩
    rw [World.cell?_setCell_other _ _ _ _ (fun h => e (by cases h; rfl))]; exact h1
theorem OutP.join {w : World} {g : Nat} {ts : List (List UInt8)} (h : OutP w g ts.length ts) (hn : ts.length ≤ 1000000) (hl : (Lib.join ts [44, 32]).length ≤ 1000000) :
    Calls Tryd.prog 83 #[.slice (some ⟨g, 0, none⟩) ts.length ts.length, .string ⟨#[44, 32]⟩] w fun e w' => e = .returned (.string (str (Lib.join ts [44, 32]))) ∧ Below w.heap.size w w' := by
  by_cases h0 : ts.length = 0
  · have : ts = [] := List.length_eq_zero_iff.1 h0
    subst this
    refine (Tryd.strings_Join_none _ 0 ⟨#[44, 32]⟩ w).mono ?_
    rintro e w' ⟨rfl, rfl⟩
    exact ⟨rfl, Below.refl _ _⟩
  · have hd := map_data ts
    have hs : (⟨#[44, 32]⟩ : ByteArray).data.toList = [44, 32] := rfl
    have := Tryd.strings_Join g 0 ts.length (ts.map str) ⟨#[44, 32]⟩ w (fun j x hx => by
      rw [List.getElem?_map] at hx
      obtain ⟨t, ht, rfl⟩ := Option.map_eq_some_iff.1 hx
      obtain ⟨u, hu, _, hr⟩ := h.2 j t ht
      rw [Nat.zero_add, hu, hr (List.getElem?_eq_some_iff.1 ht).1]) h.1 (by rw [List.length_map]; omega) (by rw [List.length_map]; exact Nat.le_refl _) (by rw [hd, hs]; omega)
    rw [List.length_map, hd, hs] at this
    exact this
theorem join_mem : ∀ (ts : List (List UInt8)) (i : Nat) (t : List UInt8), ts[i]? = some t → t.length ≤ (Lib.join ts [44, 32]).length
  | x :: r, 0, t, h => by simp at h; subst h; rw [Lib.join_cons]; simp
  | x :: r, i + 1, t, h => by
    have := join_mem_tail r i t (by simpa using h)
    rw [Lib.join_cons, List.length_append]; omega
  | [], i, t, h => by simp at h
where join_mem_tail : ∀ (ts : List (List UInt8)) (i : Nat) (t : List UInt8), ts[i]? = some t → t.length ≤ (Lib.joinTail [44, 32] ts).length
  | x :: r, 0, t, h => by simp at h; subst h; simp [Lib.joinTail]; omega
  | x :: r, i + 1, t, h => by
    have := join_mem_tail r i t (by simpa using h)
    have e : Lib.joinTail [44, 32] (x :: r) = 44 :: 32 :: (x ++ Lib.joinTail [44, 32] r) := by simp [Lib.joinTail]
    rw [e]; simp only [List.length_cons, List.length_append]; omega
  | [], i, t, h => by simp at h

set_option maxRecDepth 100000 in
set_option maxHeartbeats 6400000 in
theorem funcLine_any (f : Fnc) (b o : Nat) (w : World) (hb : b < w.heap.size) (h : f.At w w.heap.size b o) (hp : f.params.length ≤ 1000000) (hl : f.head.length ≤ 1000000) :
    Calls Tryd.prog 64 #[.pointer (some ⟨b, o, none⟩)] w fun e w' => e = .returned (.string (str f.head)) ∧ Below w.heap.size w w' := by
  obtain ⟨nm, ps, vs, rs, bd⟩ := f
  obtain ⟨s, c, ok⟩ := h.open
  have x0 : w.cell? ⟨b, o, none⟩ = some (.string (str nm)) := c 0 _ rfl
  have x1 : w.cell? ⟨b, o + 1, none⟩ = some (.slice s.pp ps.length s.cp) := c 1 _ rfl
  have x3 : w.cell? ⟨b, o + 3, none⟩ = some (.slice s.pr rs.length s.cr) := c 3 _ rfl
  simp only [] at hp
  obtain ⟨ok1, _, ⟨hcr, ok3⟩, _⟩ := ok
  simp only [] at ok1 ok3 hcr
  obtain ⟨JP, hJP⟩ : ∃ k, k = Lib.join (ps.map Vr.param) [44, 32] := ⟨_, rfl⟩
  obtain ⟨JR, hJR⟩ : ∃ k, k = Lib.join rs [44, 32] := ⟨_, rfl⟩
  have hT : (Fnc.mk nm ps vs rs bd).head = ((([102, 110, 32] ++ nm ++ [40] ++ JP ++ [41]) ++ (if rs.length = 0 then [] else [32, 45, 62, 32] ++ JR)) ++ [32, 123]) := by rw [hJP, hJR]; rfl
  rw [hT] at hl
  have hlen : nm.length + JP.length ≤ 1000000 ∧ (rs.length ≠ 0 → nm.length + JP.length + JR.length ≤ 1000000) := by
    by_cases h0 : rs.length = 0
    · rw [if_pos h0] at hl; simp only [List.length_append, List.length_cons, List.length_nil] at hl; exact ⟨by omega, fun h => absurd h0 h⟩
    · rw [if_neg h0] at hl; simp only [List.length_append, List.length_cons, List.length_nil] at hl; exact ⟨by omega, fun _ => by omega⟩
  have HJm := Lib.hid (fun i t h => by have := join_mem (ps.map Vr.param) i t h; rw [← hJP] at this; exact this)
  obtain ⟨Z, hmk, hZ⟩ := make_strs ps.length hp
  have HZ := Lib.hid hZ
  have S1 := Lib.hid ok1
  have HJn := Lib.hid (fun (w1 : World) (h : OutP w1 w.heap.size (ps.map Vr.param).length (ps.map Vr.param)) => h.join (by rw [List.length_map]; exact hp) (by rw [← hJP]; omega))
  rw [← hJP, List.length_map] at HJn
  have HRt := Lib.hid (fun (h0 : rs.length ≠ 0) (w1 : World) (hB : Below w.heap.size w w1) => join_any rs s.pr s.cr w.heap.size w1 hB.size ⟨hcr, ok3.imp (Nat.le_refl _) (StrAt.later hB)⟩ (by rw [← hJR]; have := hlen.2 h0; omega))
  rw [← hJR] at HRt
  obtain ⟨TT, hTT⟩ : ∃ k, k = str (Fnc.mk nm ps vs rs bd).head := ⟨_, rfl⟩
  have HT := Lib.hid (hTT.trans (congrArg str hT))
  have hpl : ps.length ≤ 140737488355328 := ok1.1
  clear hJP hJR hT hl h c ok1 ok3 hcr hZ
  rw [← hTT]
  clear hTT
  go_enter Tryd.func64, Tryd.ntmps64
  go_wp2_with fail
  obtain ⟨w1, hw1⟩ : ∃ w1, w.alloc (.cells Z 9 (0, 0)) = w1 := ⟨_, rfl⟩
  have HB1 := Lib.hid (show Below w.heap.size w w1 by rw [← hw1]; exact (Below.refl _ _).alloc (Nat.le_refl _) _)
  have HO1 : Hid (OutP w1 w.heap.size 0 (ps.map Vr.param)) := Lib.hid ⟨by rw [← hw1]; simp, fun i t ht =>
    ⟨.string ⟨#[]⟩, by rw [← hw1, cell_of_row _ _ _ _ _ _ (heap_alloc_new w _)]; exact HZ.out i (by have := (List.getElem?_eq_some_iff.1 ht).1; simpa using this), by rw [← hw1]; unfold World.frozen?; simp only [heap_alloc_new w (.cells Z 9 (0, 0))]; simp, fun h => absurd h (Nat.not_lt_zero _)⟩⟩
  have x11 := (HB1.out.cell (p := ⟨b, o + 1, none⟩) hb).trans x1
  rw [hw1]
  clear hw1 hmk
  go_wp2_with fail
  go_loopw [18] (fun i wr => ∃ k : Nat, i = .int .i64 k ∧ k ≤ ps.length ∧ Hid (OutP wr w.heap.size k (ps.map Vr.param)) ∧ Hid (Below w.heap.size w wr)) (fun i _ => ps.length - (intOf i).toNat)
  case atStart => exact ⟨0, rfl, by omega, HO1, HB1⟩
  case round =>
    obtain ⟨k, rfl, hk, hOut, hB⟩ := hrel
    by_cases hlt : k < ps.length
    · obtain ⟨v, hv⟩ : ∃ v, ps[k]? = some v := ⟨_, List.getElem?_eq_getElem hlt⟩
      have hm : (ps.map Vr.param)[k]? = some v.param := by rw [List.getElem?_map, hv]; rfl
      obtain ⟨b1, o1, hpp, hb1, hA⟩ : ∃ b o, s.pp = some ⟨b, o, none⟩ ∧ b < w.heap.size ∧ Row (Vr.At w) 4 ps b o := by
        rcases S1.out.2 with h0 | h0
        · omega
        · exact h0
      have hAt := Vr.At.later hB.out v b1 _ hb1 (hA.get hv)
      obtain ⟨vn, vk, vz, vsec⟩ := v
      obtain ⟨c0, c1, c2, c3⟩ := hAt
      have hpl2 := HJm.out k _ hm
      have hlen2 : vn.length + (secT vsec).length ≤ 1000000 := by have := hpl2; simp only [Vr.param, List.length_append] at this; omega
      obtain ⟨u, hu, hf, _⟩ := hOut.out.2 k _ hm
      have hgz := hOut.out.1
      have hb1w : b1 < wr.heap.size := Nat.lt_of_lt_of_le hb1 hB.out.size
      simp only [] at c0 c1 c2 c3
      rw [hpp]
      clear hA

      obtain ⟨NM, hNM⟩ : ∃ A, A = str (vn) := ⟨_, rfl⟩
      obtain ⟨A2, hA2⟩ : ∃ A, A = str (secT vsec) := ⟨_, rfl⟩
      have HSc : ∀ w : World, Calls Tryd.prog 63 #[.bool vsec] w fun e w' => e = .returned (.string A2) ∧ w = w' := fun w => by rw [hA2]; exact secret_any vsec w
      have HSec := Lib.hid HSc
      rw [← hNM] at c0
      obtain ⟨B7, hB7⟩ : ∃ B, B = str (vn ++ secT vsec) := ⟨_, rfl⟩
      have qB7 : ∀ w : World, (Op.stringOp .add NM A2).run Tryd.prog w = .ok (.string B7) w := fun w => by
        (try rw [hB7]); (try rw [hNM]); (try rw [hA2]); exact add_str (vn) (secT vsec) (by (try simp only [List.length_append, List.length_cons, List.length_nil] at hlen2 ⊢); omega) w
      have hBv : B7 = str (Vr.param ⟨vn, vk, vz, vsec⟩) := hB7
      clear hNM hA2 hB7 HSc
      go_wp2_with fail
      obtain ⟨W1, hW1⟩ : ∃ W1, wr.alloc (.cells #[.string NM, .int .i64 vk, .int .i64 vz, .bool vsec] 48) = W1 := ⟨_, rfl⟩
      have hBW : Below wr.heap.size wr W1 := by rw [← hW1]; exact (Below.refl _ _).alloc (Nat.le_refl _) _
      have hk1 : W1.heap[wr.heap.size]? = some (.cells #[.string NM, .int .i64 vk, .int .i64 vz, .bool vsec] 48 (0, 0)) := by rw [← hW1]; exact heap_alloc_new wr _
      have v0 : W1.cell? ⟨wr.heap.size, 0, none⟩ = some (.string NM) := cell_block hk1 rfl
      have v3 : W1.cell? ⟨wr.heap.size, 3, none⟩ = some (.bool vsec) := cell_block hk1 rfl
      have hu1 := (hBW.cell (p := ⟨w.heap.size, k, none⟩) hgz).trans hu
      have hf1 := (hBW.frozen (p := ⟨w.heap.size, k, none⟩) hgz).trans hf
      have hne : w.heap.size ≠ wr.heap.size := Nat.ne_of_lt hgz
      have HPt : Hid (OutP (W1.drew.setCell ⟨w.heap.size, k, none⟩ (.string B7)) w.heap.size (k + 1) (ps.map Vr.param)) := Lib.hid (by rw [hBv]; exact (hOut.out.later (hBW.drew)).put hm)
      have HBn : Hid (Below w.heap.size w (W1.drew.setCell ⟨w.heap.size, k, none⟩ (.string B7))) := Lib.hid ((hB.out.trans ((hBW.drew).mono hB.out.size)).setCell (p := ⟨w.heap.size, k, none⟩) (Nat.le_refl _) _)
      rw [hW1]
      clear hW1 hk1 hBv hm hv hu hf hOut hB c0 c1 c2 c3 hBW
      refine wp_region_held_drew (S := fun W => W.cell? ⟨wr.heap.size, 0, none⟩ = some (.string NM) ∧ W.cell? ⟨wr.heap.size, 3, none⟩ = some (.bool vsec)) (by kernel_rfl) ?_ (fun hHeld => ?_)
      · exact ⟨v0, v3⟩
      refine wpAnyH_take (i := 0) (oi := { dst := Option.some 23, op := Go.Op.move (Go.Operand.tmp 3), type := 32, pos := "lines.go:108", after := #[], guard := Option.none }) (v := ?_) rfl (by kernel_rfl) (by kernel_rfl) (by kernel_rfl) (fun _ _ _ h => h) (Or.inl ⟨by rfl, ?_⟩) (by assumption) ?_
      rotate_left
      · (intro w hSw; (try dsimp only at hSw); go_simp; try with_reducible rfl)
      try simp only [Act.put, List.setIfInBounds_toArray, List.set_cons_zero, List.set_cons_succ]
      refine wpAnyH_take (i := 1) (oi := { dst := Option.some 24, op := Go.Op.move (Go.Operand.tmp 4), type := 3, pos := "lines.go:108", after := #[], guard := Option.none }) (v := ?_) rfl (by kernel_rfl) (by kernel_rfl) (by kernel_rfl) (fun _ _ _ h => h) (Or.inl ⟨by rfl, ?_⟩) (by assumption) ?_
      rotate_left
      · (intro w hSw; (try dsimp only at hSw); go_simp; try with_reducible rfl)
      try simp only [Act.put, List.setIfInBounds_toArray, List.set_cons_zero, List.set_cons_succ]
      refine wpAnyH_take (i := 2) (oi := { dst := Option.some 25, op := Go.Op.fieldAddr 48 (Go.Operand.tmp 5) 0, type := 0, pos := "lines.go:108", after := #[], guard := Option.none }) (v := ?_) rfl (by kernel_rfl) (by kernel_rfl) (by kernel_rfl) (fun _ _ _ h => h) (Or.inl ⟨by rfl, ?_⟩) (by assumption) ?_
      rotate_left
      · (intro w hSw; (try dsimp only at hSw); go_simp; try with_reducible rfl)
      try simp only [Act.put, List.setIfInBounds_toArray, List.set_cons_zero, List.set_cons_succ]
      refine wpAnyH_take (i := 3) (oi := { dst := Option.some 26, op := Go.Op.load 9 (Go.Operand.tmp 25), type := 9, pos := "lines.go:108", after := #[{ on := 2, ground := Go.Ground.data }], guard := Option.none }) (v := ?_) rfl (by kernel_rfl) (by kernel_rfl) (by kernel_rfl) (fun _ _ _ h => h) (Or.inl ⟨by rfl, ?_⟩) (by assumption) ?_
      rotate_left
      · (intro w hSw; (try dsimp only at hSw); go_simp; try with_reducible rfl)
      try simp only [Act.put, List.setIfInBounds_toArray, List.set_cons_zero, List.set_cons_succ]
      refine wpAnyH_take (i := 4) (oi := { dst := Option.some 27, op := Go.Op.fieldAddr 48 (Go.Operand.tmp 5) 3, type := 0, pos := "lines.go:108", after := #[], guard := Option.none }) (v := ?_) rfl (by kernel_rfl) (by kernel_rfl) (by kernel_rfl) (fun _ _ _ h => h) (Or.inl ⟨by rfl, ?_⟩) (by assumption) ?_
      rotate_left
      · (intro w hSw; (try dsimp only at hSw); go_simp; try with_reducible rfl)
      try simp only [Act.put, List.setIfInBounds_toArray, List.set_cons_zero, List.set_cons_succ]
      refine wpAnyH_take (i := 5) (oi := { dst := Option.some 28, op := Go.Op.load 4 (Go.Operand.tmp 27), type := 4, pos := "lines.go:108", after := #[{ on := 4, ground := Go.Ground.data }], guard := Option.none }) (v := ?_) rfl (by kernel_rfl) (by kernel_rfl) (by kernel_rfl) (fun _ _ _ h => h) (Or.inl ⟨by rfl, ?_⟩) (by assumption) ?_
      rotate_left
      · (intro w hSw; (try dsimp only at hSw); go_simp; try with_reducible rfl)
      try simp only [Act.put, List.setIfInBounds_toArray, List.set_cons_zero, List.set_cons_succ]
      refine wpAnyH_ready (rs := [6]) (by kernel_rfl) (by simp) ?_
      refine AllReadyH.cons (o := { dst := Option.some 29, op := Go.Op.call { callee := Go.Callee.value (Go.Operand.func 63), args := #[Go.Operand.tmp 28], argTypes := #[4] }, type := 9, pos := "lines.go:108", after := #[{ on := 5, ground := Go.Ground.data }], guard := Option.none }) rfl (fun K hK => ?_) AllReadyH.nil
      go_simp
      refine (HSec.out _).mono ?_
      rintro z wa ⟨rfl, rfl⟩
      refine hK.out _ _ ?_ (fun hHeld => ?_)
      · exact ⟨v0, v3⟩
      clear hK K
      try simp only [Act.put, List.setIfInBounds_toArray, List.set_cons_zero, List.set_cons_succ]
      refine wpAnyH_take (i := 7) (oi := { dst := Option.some 30, op := Go.Op.binOp Go.BinOp.add 9 (Go.Operand.tmp 26) (Go.Operand.tmp 29) 9, type := 9, pos := "lines.go:108", after := #[{ on := 3, ground := Go.Ground.data }, { on := 6, ground := Go.Ground.data }], guard := Option.none }) (v := .string B7) rfl (by kernel_rfl) (by kernel_rfl) (by kernel_rfl) (fun _ _ _ h => h) (Or.inl ⟨by rfl, ?_⟩) (by assumption) ?_
      · (intro w hSw; (try dsimp only at hSw); go_simp)
      try simp only [Act.put, List.setIfInBounds_toArray, List.set_cons_zero, List.set_cons_succ]
      refine wpAnyH_take (i := 8) (oi := { dst := Option.some 31, op := Go.Op.indexAddr 32 (Go.Operand.tmp 23) (Go.Operand.tmp 24), type := 0, pos := "lines.go:108", after := #[{ on := 0, ground := Go.Ground.data }, { on := 1, ground := Go.Ground.data }, { on := 0, ground := Go.Ground.phase }, { on := 1, ground := Go.Ground.phase }, { on := 2, ground := Go.Ground.phase }, { on := 3, ground := Go.Ground.phase }, { on := 4, ground := Go.Ground.phase }, { on := 5, ground := Go.Ground.phase }, { on := 6, ground := Go.Ground.phase }, { on := 7, ground := Go.Ground.phase }], guard := Option.none }) (v := ?_) rfl (by kernel_rfl) (by kernel_rfl) (by kernel_rfl) (fun _ _ _ h => h) (Or.inl ⟨by rfl, ?_⟩) (by assumption) ?_
      rotate_left
      · (intro w hSw; (try dsimp only at hSw); go_simp; try with_reducible rfl)
      try simp only [Act.put, List.setIfInBounds_toArray, List.set_cons_zero, List.set_cons_succ]
      refine wpAnyH_ready (rs := [9]) (by kernel_rfl) (by simp) ?_
      refine AllReadyH.cons (o := { dst := Option.none, op := Go.Op.store 9 (Go.Operand.tmp 31) (Go.Operand.tmp 30), type := 0, pos := "lines.go:108", after := #[{ on := 8, ground := Go.Ground.data }, { on := 7, ground := Go.Ground.data }, { on := 6, ground := Go.Ground.chain }, { on := 0, ground := Go.Ground.phase }, { on := 1, ground := Go.Ground.phase }, { on := 2, ground := Go.Ground.phase }, { on := 3, ground := Go.Ground.phase }, { on := 4, ground := Go.Ground.phase }, { on := 5, ground := Go.Ground.phase }, { on := 6, ground := Go.Ground.phase }, { on := 7, ground := Go.Ground.phase }], guard := Option.none }) rfl (fun K hK => ?_) AllReadyH.nil
      go_simp
      refine hK.out _ _ ?_ (fun hHeld => ?_)
      · exact ⟨(World.cell?_setCell_far _ _ _ _ hne).trans v0, (World.cell?_setCell_far _ _ _ _ hne).trans v3⟩
      clear hK K
      try simp only [Act.put, List.setIfInBounds_toArray, List.set_cons_zero, List.set_cons_succ]
      refine wpAnyH_done (by kernel_rfl) ?_ _
      go_wp2_with fail
      go_roundw
      case rel => exact ⟨k + 1, by go_num, by omega, HPt, HBn⟩
      case measure => simp [intOf]; omega
    · obtain rfl : k = ps.length := by omega
      have hB2 := hB.out
      have y0 := (hB2.cell (p := ⟨b, o, none⟩) hb).trans x0
      have HJ1 := Lib.hid (HJn.out wr.drew (hOut.out.later ((Below.refl _ _).drew)))
      clear HJn hOut
      obtain ⟨NM, hNM⟩ : ∃ A, A = str (nm) := ⟨_, rfl⟩
      obtain ⟨A2, hA2⟩ : ∃ A, A = str (JP) := ⟨_, rfl⟩
      obtain ⟨A3, hA3⟩ : ∃ A, A = str (JR) := ⟨_, rfl⟩
      rw [← hNM] at y0
      rw [← hA2] at HJ1
      rw [← hA3] at HRt
      have hlen3 : nm.length + JP.length ≤ 1000000 := hlen.1
      obtain ⟨B4, hB4⟩ : ∃ B, B = str ([102, 110, 32] ++ nm) := ⟨_, rfl⟩
      obtain ⟨B5, hB5⟩ : ∃ B, B = str (([102, 110, 32] ++ nm) ++ [40]) := ⟨_, rfl⟩
      obtain ⟨B8, hB8⟩ : ∃ B, B = str (([102, 110, 32] ++ nm ++ [40]) ++ JP) := ⟨_, rfl⟩
      obtain ⟨B9, hB9⟩ : ∃ B, B = str (([102, 110, 32] ++ nm ++ [40] ++ JP) ++ [41]) := ⟨_, rfl⟩
      have qB4 : ∀ w : World, (Op.stringOp .add ⟨#[102, 110, 32]⟩ NM).run Tryd.prog w = .ok (.string B4) w := fun w => by
        (try rw [hB4]); (try rw [hNM]); exact add_str ([102, 110, 32]) (nm) (by (try simp only [List.length_cons, List.length_nil] at hlen3 ⊢); omega) w
      have qB5 : ∀ w : World, (Op.stringOp .add B4 ⟨#[40]⟩).run Tryd.prog w = .ok (.string B5) w := fun w => by
        (try rw [hB5]); (try rw [hB4]); exact add_str (([102, 110, 32] ++ nm)) ([40]) (by (try simp only [List.length_append, List.length_cons, List.length_nil] at hlen3 ⊢); omega) w
      have qB8 : ∀ w : World, (Op.stringOp .add B5 A2).run Tryd.prog w = .ok (.string B8) w := fun w => by
        (try rw [hB8]); (try rw [hB5]); (try rw [hA2]); exact add_str (([102, 110, 32] ++ nm ++ [40])) (JP) (by (try simp only [List.length_append, List.length_cons, List.length_nil] at hlen3 ⊢); omega) w
      have qB9 : ∀ w : World, (Op.stringOp .add B8 ⟨#[41]⟩).run Tryd.prog w = .ok (.string B9) w := fun w => by
        (try rw [hB9]); (try rw [hB8]); exact add_str (([102, 110, 32] ++ nm ++ [40] ++ JP)) ([41]) (by (try simp only [List.length_append, List.length_cons, List.length_nil] at hlen3 ⊢); omega) w
      have HB9 := Lib.hid hB9
      have HA3 := Lib.hid hA3
      clear hNM hA2 hA3 hB4 hB5 hB8 hB9
      go_upto_region 7 with fail
      go_cut [6] from 33 to 42 (fun s6 wx => s6 = .string B9 ∧ Hid (Below w.heap.size w wx))
      case first =>
        have HS : Below wr.heap.size wr wr.drew := (Below.refl _ _).drew
        have hbw : b < wr.heap.size := Nat.lt_of_lt_of_le hb hB2.size
        refine wp_region_held_drew (S := fun W => Below wr.heap.size wr W ∧ W.cell? ⟨b, o, none⟩ = some (.string NM)) (by kernel_rfl) ?_ (fun hHeld => ?_)
        · exact ⟨HS, (HS.cell (p := ⟨b, o, none⟩) hbw).trans y0⟩
        refine wpAnyH_take (i := 0) (oi := { dst := Option.some 33, op := Go.Op.move (Go.Operand.tmp 0), type := 97, pos := "lines.go:110", after := #[], guard := Option.none }) (v := ?_) rfl (by kernel_rfl) (by kernel_rfl) (by kernel_rfl) (fun _ _ _ h => h) (Or.inl ⟨by rfl, ?_⟩) (by assumption) ?_
        rotate_left
        · (intro w hSw; (try dsimp only at hSw); go_simp; try with_reducible rfl)
        try simp only [Act.put, List.setIfInBounds_toArray, List.set_cons_zero, List.set_cons_succ]
        refine wpAnyH_take (i := 1) (oi := { dst := Option.some 34, op := Go.Op.nilCheck (Go.Operand.tmp 33), type := 0, pos := "lines.go:110", after := #[{ on := 0, ground := Go.Ground.data }], guard := Option.none }) (v := ?_) rfl (by kernel_rfl) (by kernel_rfl) (by kernel_rfl) (fun _ _ _ h => h) (Or.inl ⟨by rfl, ?_⟩) (by assumption) ?_
        rotate_left
        · (intro w hSw; (try dsimp only at hSw); go_simp; try with_reducible rfl)
        try simp only [Act.put, List.setIfInBounds_toArray, List.set_cons_zero, List.set_cons_succ]
        refine wpAnyH_take (i := 2) (oi := { dst := Option.some 35, op := Go.Op.fieldAddr 39 (Go.Operand.tmp 34) 0, type := 0, pos := "lines.go:110", after := #[{ on := 1, ground := Go.Ground.data }], guard := Option.none }) (v := ?_) rfl (by kernel_rfl) (by kernel_rfl) (by kernel_rfl) (fun _ _ _ h => h) (Or.inl ⟨by rfl, ?_⟩) (by assumption) ?_
        rotate_left
        · (intro w hSw; (try dsimp only at hSw); go_simp; try with_reducible rfl)
        try simp only [Act.put, List.setIfInBounds_toArray, List.set_cons_zero, List.set_cons_succ]
        refine wpAnyH_take (i := 3) (oi := { dst := Option.some 36, op := Go.Op.load 9 (Go.Operand.tmp 35), type := 9, pos := "lines.go:110", after := #[{ on := 2, ground := Go.Ground.data }], guard := Option.none }) (v := ?_) rfl (by kernel_rfl) (by kernel_rfl) (by kernel_rfl) (fun _ _ _ h => h) (Or.inl ⟨by rfl, ?_⟩) (by assumption) ?_
        rotate_left
        · (intro w hSw; (try dsimp only at hSw); go_simp; try with_reducible rfl)
        try simp only [Act.put, List.setIfInBounds_toArray, List.set_cons_zero, List.set_cons_succ]
        refine wpAnyH_take (i := 4) (oi := { dst := Option.some 37, op := Go.Op.binOp Go.BinOp.add 9 (Go.Operand.const (Go.Value.string { data := #[102, 110, 32] })) (Go.Operand.tmp 36) 9, type := 9, pos := "lines.go:110", after := #[{ on := 3, ground := Go.Ground.data }], guard := Option.none }) (v := .string B4) rfl (by kernel_rfl) (by kernel_rfl) (by kernel_rfl) (fun _ _ _ h => h) (Or.inl ⟨by rfl, ?_⟩) (by assumption) ?_
        · (intro w hSw; (try dsimp only at hSw); go_simp)
        try simp only [Act.put, List.setIfInBounds_toArray, List.set_cons_zero, List.set_cons_succ]
        refine wpAnyH_take (i := 5) (oi := { dst := Option.some 38, op := Go.Op.binOp Go.BinOp.add 9 (Go.Operand.tmp 37) (Go.Operand.const (Go.Value.string { data := #[40] })) 9, type := 9, pos := "lines.go:110", after := #[{ on := 4, ground := Go.Ground.data }], guard := Option.none }) (v := .string B5) rfl (by kernel_rfl) (by kernel_rfl) (by kernel_rfl) (fun _ _ _ h => h) (Or.inl ⟨by rfl, ?_⟩) (by assumption) ?_
        · (intro w hSw; (try dsimp only at hSw); go_simp)
        try simp only [Act.put, List.setIfInBounds_toArray, List.set_cons_zero, List.set_cons_succ]
        refine wpAnyH_take (i := 6) (oi := { dst := Option.some 39, op := Go.Op.move (Go.Operand.tmp 3), type := 32, pos := "lines.go:110", after := #[], guard := Option.none }) (v := ?_) rfl (by kernel_rfl) (by kernel_rfl) (by kernel_rfl) (fun _ _ _ h => h) (Or.inl ⟨by rfl, ?_⟩) (by assumption) ?_
        rotate_left
        · (intro w hSw; (try dsimp only at hSw); go_simp; try with_reducible rfl)
        try simp only [Act.put, List.setIfInBounds_toArray, List.set_cons_zero, List.set_cons_succ]
        refine wpAnyH_ready (rs := [7]) (by kernel_rfl) (by simp) ?_
        refine AllReadyH.cons (o := { dst := Option.some 40, op := Go.Op.call { callee := Go.Callee.value (Go.Operand.func 83), args := #[Go.Operand.tmp 39, Go.Operand.const (Go.Value.string { data := #[44, 32] })], argTypes := #[32, 9] }, type := 9, pos := "lines.go:110", after := #[{ on := 6, ground := Go.Ground.data }], guard := Option.none }) rfl (fun K hK => ?_) AllReadyH.nil
        go_simp
        refine HJ1.out.mono ?_
        rintro z wa ⟨rfl, hB'⟩
        replace HS := HS.trans (hB'.mono HS.size)
        clear hB'
        refine hK.out _ _ ?_ (fun hHeld => ?_)
        · exact ⟨HS, (HS.cell (p := ⟨b, o, none⟩) hbw).trans y0⟩
        clear hK K
        try simp only [Act.put, List.setIfInBounds_toArray, List.set_cons_zero, List.set_cons_succ]
        refine wpAnyH_take (i := 8) (oi := { dst := Option.some 41, op := Go.Op.binOp Go.BinOp.add 9 (Go.Operand.tmp 38) (Go.Operand.tmp 40) 9, type := 9, pos := "lines.go:110", after := #[{ on := 5, ground := Go.Ground.data }, { on := 7, ground := Go.Ground.data }], guard := Option.none }) (v := .string B8) rfl (by kernel_rfl) (by kernel_rfl) (by kernel_rfl) (fun _ _ _ h => h) (Or.inl ⟨by rfl, ?_⟩) (by assumption) ?_
        · (intro w hSw; (try dsimp only at hSw); go_simp)
        try simp only [Act.put, List.setIfInBounds_toArray, List.set_cons_zero, List.set_cons_succ]
        refine wpAnyH_take (i := 9) (oi := { dst := Option.some 42, op := Go.Op.binOp Go.BinOp.add 9 (Go.Operand.tmp 41) (Go.Operand.const (Go.Value.string { data := #[41] })) 9, type := 9, pos := "lines.go:110", after := #[{ on := 8, ground := Go.Ground.data }], guard := Option.none }) (v := .string B9) rfl (by kernel_rfl) (by kernel_rfl) (by kernel_rfl) (fun _ _ _ h => h) (Or.inl ⟨by rfl, ?_⟩) (by assumption) ?_
        · (intro w hSw; (try dsimp only at hSw); go_simp)
        try simp only [Act.put, List.setIfInBounds_toArray, List.set_cons_zero, List.set_cons_succ]
        refine wpAnyH_take (i := 10) (oi := { dst := Option.some 6, op := Go.Op.assign (Go.Operand.tmp 42), type := 9, pos := "lines.go:110", after := #[{ on := 9, ground := Go.Ground.data }, { on := 7, ground := Go.Ground.chain }, { on := 0, ground := Go.Ground.phase }, { on := 1, ground := Go.Ground.phase }, { on := 2, ground := Go.Ground.phase }, { on := 3, ground := Go.Ground.phase }, { on := 4, ground := Go.Ground.phase }, { on := 5, ground := Go.Ground.phase }, { on := 6, ground := Go.Ground.phase }, { on := 7, ground := Go.Ground.phase }, { on := 8, ground := Go.Ground.phase }, { on := 9, ground := Go.Ground.phase }], guard := Option.none }) (v := ?_) rfl (by kernel_rfl) (by kernel_rfl) (by kernel_rfl) (fun _ _ _ h => h) (Or.inl ⟨by rfl, ?_⟩) (by assumption) ?_
        rotate_left
        · (intro w hSw; (try dsimp only at hSw); go_simp; try with_reducible rfl)
        try simp only [Act.put, List.setIfInBounds_toArray, List.set_cons_zero, List.set_cons_succ]
        refine wpAnyH_done (by kernel_rfl) ?_ _
        go_wp2_with fail
        go_meet
        exact ⟨rfl, Lib.hid (hB2.trans (HS.mono hB2.size))⟩
      case rest =>
        obtain ⟨rfl, HB3⟩ := hcut
        have y3 := (HB3.out.cell (p := ⟨b, o + 3, none⟩) hb).trans x3
        by_cases h0 : rs.length = 0
        · rw [h0] at y3
          have hB9 := HB9.out
          obtain ⟨B58, hB58⟩ : ∃ B, B = str (([102, 110, 32] ++ nm ++ [40] ++ JP ++ [41]) ++ [32, 123]) := ⟨_, rfl⟩
          have qB58 : ∀ w : World, (Op.stringOp .add B9 ⟨#[32, 123]⟩).run Tryd.prog w = .ok (.string B58) w := fun w => by
            (try rw [hB58]); (try rw [hB9]); exact add_str (([102, 110, 32] ++ nm ++ [40] ++ JP ++ [41])) ([32, 123]) (by (try simp only [List.length_append, List.length_cons, List.length_nil] at hlen3 ⊢); omega) w
          have HF := Lib.hid (show TT = B58 by rw [HT.out, if_pos h0, List.append_nil, hB58])
          clear hB58 hB9
          go_wp2_with fail
          go_ret
          exact ⟨ret_strE HF.out.symm, HB3.out⟩
        · have hpos : (0 : Int) < (rs.length : Int) := by omega
          have hlen4 := hlen.2 h0
          have hB9 := HB9.out
          have hA3 := HA3.out
          have HR1 := Lib.hid (HRt.out h0 wc HB3.out)
          obtain ⟨B55, hB55⟩ : ∃ B, B = str ([32, 45, 62, 32] ++ JR) := ⟨_, rfl⟩
          obtain ⟨B56, hB56⟩ : ∃ B, B = str (([102, 110, 32] ++ nm ++ [40] ++ JP ++ [41]) ++ ([32, 45, 62, 32] ++ JR)) := ⟨_, rfl⟩
          obtain ⟨B58, hB58⟩ : ∃ B, B = str ((([102, 110, 32] ++ nm ++ [40] ++ JP ++ [41]) ++ ([32, 45, 62, 32] ++ JR)) ++ [32, 123]) := ⟨_, rfl⟩
          have qB55 : ∀ w : World, (Op.stringOp .add ⟨#[32, 45, 62, 32]⟩ A3).run Tryd.prog w = .ok (.string B55) w := fun w => by
            (try rw [hB55]); (try rw [hA3]); exact add_str ([32, 45, 62, 32]) (JR) (by (try simp only [List.length_cons, List.length_nil] at hlen4 ⊢); omega) w
          have qB56 : ∀ w : World, (Op.stringOp .add B9 B55).run Tryd.prog w = .ok (.string B56) w := fun w => by
            (try rw [hB56]); (try rw [hB9]); (try rw [hB55]); exact add_str (([102, 110, 32] ++ nm ++ [40] ++ JP ++ [41])) (([32, 45, 62, 32] ++ JR)) (by (try simp only [List.length_append, List.length_cons, List.length_nil] at hlen4 ⊢); omega) w
          have qB58 : ∀ w : World, (Op.stringOp .add B56 ⟨#[32, 123]⟩).run Tryd.prog w = .ok (.string B58) w := fun w => by
            (try rw [hB58]); (try rw [hB56]); exact add_str ((([102, 110, 32] ++ nm ++ [40] ++ JP ++ [41]) ++ ([32, 45, 62, 32] ++ JR))) ([32, 123]) (by (try simp only [List.length_append, List.length_cons, List.length_nil] at hlen4 ⊢); omega) w
          have HF := Lib.hid (show TT = B58 by rw [HT.out, if_neg h0, hB58])
          clear hB58 hB56 hB55 hB9 hA3
          go_wp2_with fail
          refine HR1.out.mono ?_
          rintro z w2 ⟨rfl, hB'⟩
          have HE := Lib.hid (HB3.out.trans (hB'.mono HB3.out.size))
          clear hB'
          go_wp2_with fail
          go_ret
          exact ⟨ret_strE HF.out.symm, HE.out⟩
end Go.Proofs.YtkjhofnkgcjcoaaDoor
/- Unlike programs that can be told have unlike texts: functions, regions, lines. -/
namespace Go.Proofs.YtkjhofnkgcjcoaaDoor
open Go.RowKit

theorem sec_cut {a b : Bool} {r s : List UInt8} {c d : UInt8} (hc : c ≠ 32) (hd : d ≠ 32) (h : secT a ++ c :: r = secT b ++ d :: s) : a = b ∧ c :: r = d :: s := by
  cases a <;> cases b
  · exact ⟨rfl, h⟩
  · simp only [secT, List.cons_append, Bool.false_eq_true, if_false, if_true, List.nil_append, List.cons.injEq] at h; exact absurd h.1 hc
  · simp only [secT, List.cons_append, Bool.false_eq_true, if_false, if_true, List.nil_append, List.cons.injEq] at h; exact absurd h.1.symm hd
  · exact ⟨rfl, List.append_cancel_left h⟩
theorem sec_brk (a : Bool) {c : UInt8} (r : List UInt8) (h : isPart c = false) : Brk (secT a ++ c :: r) := by
  cases a
  · exact brk_of _ h
  · exact b32 _
theorem mayP_parts {v : Vr} (h : v.mayP = true) : nameB v.name = true ∧ v.kind = 1 ∧ v.size = 0 := by
  unfold Vr.mayP at h
  rw [Bool.and_eq_true, Bool.and_eq_true] at h
  exact ⟨h.1, of_decide_eq_true h.2.1, of_decide_eq_true h.2.2⟩
theorem param_eq {v w : Vr} (hv : v.mayP = true) (hw : w.mayP = true) (h1 : v.name = w.name) (h2 : v.secret = w.secret) : v = w := by
  have a := mayP_parts hv
  have b := mayP_parts hw
  obtain ⟨n, k, s, c⟩ := v
  obtain ⟨n', k', s', c'⟩ := w
  obtain ⟨_, a1, a2⟩ := a
  obtain ⟨_, b1, b2⟩ := b
  simp only at a1 a2 b1 b2 h1 h2
  rw [a1, a2, b1, b2, h1, h2]
theorem tail_head (ts : List (List UInt8)) (c : UInt8) (s : List UInt8) : ∃ d r, Lib.joinTail [44, 32] ts ++ c :: s = d :: r ∧ (d = 44 ∨ d = c) := by
  cases ts with
  | nil => exact ⟨c, s, rfl, .inr rfl⟩
  | cons x t => rw [joinTail_cons]; exact ⟨_, _, rfl, .inl rfl⟩
/-- one parameter, and what stands behind it -/
theorem param_cut {v w : Vr} {r s : List UInt8} (hv : v.mayP = true) (hw : w.mayP = true) (hr : ∃ d t, r = d :: t ∧ (d = 44 ∨ d = 41)) (hs : ∃ d t, s = d :: t ∧ (d = 44 ∨ d = 41)) (h : v.param ++ r = w.param ++ s) : v = w ∧ r = s := by
  obtain ⟨d, t, rfl, hd⟩ := hr
  obtain ⟨d', t', rfl, hd'⟩ := hs
  have p : ∀ {x : UInt8}, (x = 44 ∨ x = 41) → isPart x = false ∧ x ≠ 32 := fun hx => by rcases hx with rfl | rfl <;> exact ⟨by decide, by decide⟩
  simp only [Vr.param, List.append_assoc] at h
  obtain ⟨h1, h2⟩ := word_cut _ _ _ _ (name_parts (mayP_parts hv).1).1 (name_parts (mayP_parts hw).1).1 (sec_brk _ _ (p hd).1) (sec_brk _ _ (p hd').1) h
  obtain ⟨h3, h4⟩ := sec_cut (p hd).2 (p hd').2 h2
  exact ⟨param_eq hv hw h1 h3, h4⟩
theorem paramsTail_cut : ∀ (a b : List Vr) (r s : List UInt8), a.all Vr.mayP = true → b.all Vr.mayP = true → Lib.joinTail [44, 32] (a.map Vr.param) ++ 41 :: r = Lib.joinTail [44, 32] (b.map Vr.param) ++ 41 :: s → a = b ∧ r = s
  | [], [], r, s, _, _, h => by simp only [List.map_nil, joinTail_nil, List.nil_append, List.cons.injEq, true_and] at h; exact ⟨rfl, h⟩
  | [], y :: b, r, s, _, _, h => by simp [joinTail_nil, joinTail_cons] at h
  | x :: a, [], r, s, _, _, h => by simp [joinTail_nil, joinTail_cons] at h
  | x :: a, y :: b, r, s, ha, hb, h => by
    simp only [List.map_cons, joinTail_cons, List.cons_append, List.append_assoc, List.cons.injEq, true_and] at h
    simp only [List.all_cons, Bool.and_eq_true] at ha hb
    obtain ⟨h1, h2⟩ := param_cut ha.1 hb.1 (tail_head _ _ _) (tail_head _ _ _) h
    obtain ⟨h3, h4⟩ := paramsTail_cut a b r s ha.2 hb.2 h2
    exact ⟨by rw [h1, h3], h4⟩
theorem param_head {v : Vr} (h : v.mayP = true) (r : List UInt8) : ∃ c s, v.param ++ r = c :: s ∧ c ≠ 41 := by
  obtain ⟨_, ⟨c, s, e, hc⟩, _⟩ := name_parts (mayP_parts h).1
  exact ⟨c, _, by rw [Vr.param, e]; rfl, (let_ne hc).2.2.2.1⟩
theorem params_cut {a b : List Vr} {r s : List UInt8} (ha : a.all Vr.mayP = true) (hb : b.all Vr.mayP = true) (h : Lib.join (a.map Vr.param) [44, 32] ++ 41 :: r = Lib.join (b.map Vr.param) [44, 32] ++ 41 :: s) : a = b ∧ r = s := by
  cases a with
  | nil =>
    cases b with
    | nil => simp only [List.map_nil, Lib.join_nil, List.nil_append, List.cons.injEq, true_and] at h; exact ⟨rfl, h⟩
    | cons y b =>
      simp only [List.all_cons, Bool.and_eq_true] at hb
      obtain ⟨c, t, e, hc⟩ := param_head hb.1 (Lib.joinTail [44, 32] (b.map Vr.param) ++ 41 :: s)
      simp only [List.map_nil, List.map_cons, Lib.join_nil, Lib.join_cons, List.append_assoc, e, List.nil_append, List.cons.injEq] at h
      exact absurd h.1.symm hc
  | cons x a =>
    simp only [List.all_cons, Bool.and_eq_true] at ha
    cases b with
    | nil =>
      obtain ⟨c, t, e, hc⟩ := param_head ha.1 (Lib.joinTail [44, 32] (a.map Vr.param) ++ 41 :: r)
      simp only [List.map_nil, List.map_cons, Lib.join_nil, Lib.join_cons, List.append_assoc, e, List.nil_append, List.cons.injEq] at h
      exact absurd h.1 hc
    | cons y b =>
      simp only [List.all_cons, Bool.and_eq_true] at hb
      simp only [List.map_cons, Lib.join_cons, List.append_assoc] at h
      obtain ⟨h1, h2⟩ := param_cut ha.1 hb.1 (tail_head _ _ _) (tail_head _ _ _) h
      obtain ⟨h3, h4⟩ := paramsTail_cut a b r s ha.2 hb.2 h2
      exact ⟨by rw [h1, h3], h4⟩
/-- a variable's line -/
theorem may_var {v : Vr} (h : v.may = true) : (∃ nm, v = ⟨nm, 1, 0, false⟩ ∧ nameB nm = true) ∨ (∃ nm n sc, (v = ⟨nm, 2, (n : Nat), sc⟩ ∨ v = ⟨nm, 3, (n : Nat), sc⟩) ∧ nameB nm = true) := by
  unfold Vr.may at h
  split at h
  · rename_i hk
    rw [Bool.and_eq_true, Bool.not_eq_true'] at h
    obtain ⟨h1, _, h2⟩ := mayP_parts h.1
    obtain ⟨n, k, s, c⟩ := v
    simp only at hk h1 h2 h
    exact .inl ⟨n, by rw [hk, h2, h.2], h1⟩
  · split at h
    · rename_i _ hk
      rw [Bool.and_eq_true] at h
      have h2 := of_decide_eq_true h.2
      obtain ⟨n, k, s, c⟩ := v
      simp only at hk h h2
      obtain ⟨m, rfl⟩ := Int.eq_ofNat_of_zero_le h2
      refine .inr ⟨n, m, c, ?_, h.1⟩
      rcases hk with rfl | rfl
      · exact .inl rfl
      · exact .inr rfl
    · cases h
theorem line_1 (nm : List UInt8) : (Vr.mk nm 1 0 false).line = [118, 97, 114] ++ 32 :: (nm ++ [59]) := by simp [Vr.line]
theorem line_2 (nm : List UInt8) (n : Nat) (sc : Bool) : (Vr.mk nm 2 (n : Nat) sc).line = [97, 114, 114, 97, 121] ++ 32 :: (nm ++ 32 :: (Lib.decDigits n ++ (secT sc ++ [59]))) := by simp [Vr.line, Vr.word]
theorem line_3 (nm : List UInt8) (n : Nat) (sc : Bool) : (Vr.mk nm 3 (n : Nat) sc).line = [115, 116, 97, 99, 107] ++ 32 :: (nm ++ 32 :: (Lib.decDigits n ++ (secT sc ++ [59]))) := by simp [Vr.line, Vr.word]
theorem b59 (r : List UInt8) : Brk (59 :: r) := brk_of r (by decide)
theorem sized_cut {nm nm' : List UInt8} {n n' : Nat} {sc sc' : Bool} {r s : List UInt8} (hn : nameB nm = true) (hn' : nameB nm' = true) (h : nm ++ 32 :: (Lib.decDigits n ++ (secT sc ++ 59 :: r)) = nm' ++ 32 :: (Lib.decDigits n' ++ (secT sc' ++ 59 :: s))) : nm = nm' ∧ n = n' ∧ sc = sc' := by
  obtain ⟨h1, h2⟩ := word_cut _ _ _ _ (name_parts hn).1 (name_parts hn').1 (b32 _) (b32 _) h
  simp only [List.cons.injEq, true_and] at h2
  obtain ⟨h3, h4⟩ := dec_cut (sec_brk _ _ (by decide)) (sec_brk _ _ (by decide)) h2
  exact ⟨h1, h3, (sec_cut (by decide) (by decide) h4).1⟩
theorem var_cut {v w : Vr} (hv : v.may = true) (hw : w.may = true) (h : v.line = w.line) : v = w := by
  rcases may_var hv with ⟨nm, rfl, hn⟩ | ⟨nm, n, sc, rfl | rfl, hn⟩ <;> rcases may_var hw with ⟨nm', rfl, hn'⟩ | ⟨nm', n', sc', rfl | rfl, hn'⟩
  · rw [line_1, line_1] at h
    simp only [List.cons_append, List.nil_append, List.cons.injEq, true_and] at h
    rw [(word_cut _ _ _ _ (name_parts hn).1 (name_parts hn').1 (b59 _) (b59 _) h).1]
  · rw [line_1, line_2] at h; simp at h
  · rw [line_1, line_3] at h; simp at h
  · rw [line_2, line_1] at h; simp at h
  · rw [line_2, line_2] at h
    simp only [List.cons_append, List.nil_append, List.cons.injEq, true_and] at h
    obtain ⟨rfl, rfl, rfl⟩ := sized_cut hn hn' h; rfl
  · rw [line_2, line_3] at h; simp at h
  · rw [line_3, line_1] at h; simp at h
  · rw [line_3, line_2] at h; simp at h
  · rw [line_3, line_3] at h
    simp only [List.cons_append, List.nil_append, List.cons.injEq, true_and] at h
    obtain ⟨rfl, rfl, rfl⟩ := sized_cut hn hn' h; rfl
theorem line_word {v : Vr} (h : v.may = true) : ∃ w, Word0 w v.line ∧ (w = [118, 97, 114] ∨ w = [97, 114, 114, 97, 121] ∨ w = [115, 116, 97, 99, 107]) := by
  rcases may_var h with ⟨nm, rfl, hn⟩ | ⟨nm, n, sc, rfl | rfl, hn⟩
  · exact ⟨_, ⟨_, line_1 nm, by decide, b32 _⟩, .inl rfl⟩
  · exact ⟨_, ⟨_, line_2 nm n sc, by decide, b32 _⟩, .inr (.inl rfl)⟩
  · exact ⟨_, ⟨_, line_3 nm n sc, by decide, b32 _⟩, .inr (.inr rfl)⟩
/-- what stands behind variables is no variable -/
def NoVar (r : List (Nat × List UInt8)) : Prop := ∀ y s, r = y :: s → ∀ v : Vr, v.may = true → y.2 ≠ v.line
theorem vars_cut : ∀ (a b : List Vr) (r s : List (Nat × List UInt8)), a.all Vr.may = true → b.all Vr.may = true → NoVar r → NoVar s → a.map (fun v => (1, v.line)) ++ r = b.map (fun v => (1, v.line)) ++ s → a = b ∧ r = s
  | [], [], _, _, _, _, _, _, h => ⟨rfl, h⟩
  | [], y :: b, r, s, _, hb, hr, _, h => by
    simp only [List.map_nil, List.map_cons, List.nil_append, List.cons_append] at h
    simp only [List.all_cons, Bool.and_eq_true] at hb
    exact absurd rfl (hr _ _ h y hb.1)
  | x :: a, [], r, s, ha, _, _, hs, h => by
    simp only [List.map_nil, List.map_cons, List.nil_append, List.cons_append] at h
    simp only [List.all_cons, Bool.and_eq_true] at ha
    exact absurd rfl (hs _ _ h.symm x ha.1)
  | x :: a, y :: b, r, s, ha, hb, hr, hs, h => by
    simp only [List.map_cons, List.cons_append, List.cons.injEq, Prod.mk.injEq, true_and] at h
    simp only [List.all_cons, Bool.and_eq_true] at ha hb
    obtain ⟨h3, h4⟩ := vars_cut a b r s ha.2 hb.2 hr hs h.2
    exact ⟨by rw [var_cut ha.1 hb.1 h.1, h3], h4⟩
theorem first_no_var {x : St} (hx : x.may = true) {v : Vr} (hv : v.may = true) : x.first ≠ v.line := by
  intro e
  obtain ⟨w, h1, h2⟩ := (St.shape hx).word
  obtain ⟨u, h3, h4⟩ := line_word hv
  rw [e] at h1
  obtain rfl := h1.uniq h3
  rcases h2 with h2 | h2
  · have := (name_parts h2).2.2
    rcases h4 with rfl | rfl | rfl <;> (revert this; decide)
  · rcases h4 with rfl | rfl | rfl <;> (revert h2; decide)
theorem body_no_var {l : Sts} (hl : l.may = true) (t : Nat) (r : List (Nat × List UInt8)) : NoVar (l.lines t ++ ((0, [125]) :: r)) := by
  intro y s e v hv
  cases l with
  | nil =>
    simp only [Sts.lines, List.nil_append, List.cons.injEq] at e
    rw [← e.1]
    intro h
    obtain ⟨u, ⟨q, h3, _, _⟩, h4⟩ := line_word hv
    rw [h3] at h
    rcases h4 with rfl | rfl | rfl <;> simp at h
  | cons x l =>
    rw [Sts.may, Bool.and_eq_true] at hl
    obtain ⟨kd, nm, ns, e', a, g, lo, hi, bd, el⟩ := x
    simp only [Sts.lines, St.lines, List.cons_append, List.cons.injEq, first_eq] at e
    rw [← e.1]
    exact first_no_var hl.1 hv
theorem can_may {l : Sts} (h : l.can = true) : l.may = true := by unfold Sts.can at h; rw [Bool.and_eq_true] at h; exact h.2
theorem fnc_parts {f : Fnc} (h : f.may = true) : nameB f.name = true ∧ f.params.all Vr.mayP = true ∧ f.vars.all Vr.may = true ∧ namesB f.rets = true ∧ f.body.may = true := by
  unfold Fnc.may at h
  simp only [Bool.and_eq_true] at h
  exact ⟨h.1, h.2.1, h.2.2.1, h.2.2.2.1, can_may h.2.2.2.2⟩
theorem head_form (f : Fnc) : f.head = [102, 110] ++ 32 :: (f.name ++ 40 :: (Lib.join (f.params.map Vr.param) [44, 32] ++ 41 :: ((if f.rets.length = 0 then [] else [32, 45, 62, 32] ++ Lib.join f.rets [44, 32]) ++ [32, 123]))) := by
  simp [Fnc.head]
theorem head_cut {f g : Fnc} (hf : f.may = true) (hg : g.may = true) (h : f.head = g.head) : f.name = g.name ∧ f.params = g.params ∧ f.rets = g.rets := by
  obtain ⟨f1, f2, _, f4, _⟩ := fnc_parts hf
  obtain ⟨g1, g2, _, g4, _⟩ := fnc_parts hg
  rw [head_form, head_form] at h
  simp only [List.cons_append, List.nil_append, List.cons.injEq, true_and] at h
  obtain ⟨h1, h2⟩ := word_cut _ _ _ _ (name_parts f1).1 (name_parts g1).1 (b40 _) (b40 _) h
  simp only [List.cons.injEq, true_and] at h2
  obtain ⟨h3, h4⟩ := params_cut f2 g2 h2
  refine ⟨h1, h3, ?_⟩
  generalize f.rets = a at *
  generalize g.rets = b at *
  cases a with
  | nil =>
    cases b with
    | nil => rfl
    | cons y b => simp at h4
  | cons x a =>
    cases b with
    | nil => simp at h4
    | cons y b =>
      simp only [namesB, List.all_cons, Bool.and_eq_true] at f4 g4
      rw [if_neg (by simp), if_neg (by simp), Lib.join_cons, Lib.join_cons] at h4
      simp only [List.cons_append, List.append_assoc, List.cons.injEq, true_and] at h4
      obtain ⟨h5, h6⟩ := word_cut _ _ _ _ (name_parts f4.1).1 (name_parts g4.1).1 (tail_brk _ _ (by decide)) (tail_brk _ _ (by decide)) h4
      obtain ⟨h7, _⟩ := names_cut _ _ _ _ f4.2 g4.2 h6
      rw [h5, h7]
theorem fnc_cut {f g : Fnc} {r s : List (Nat × List UInt8)} (hf : f.may = true) (hg : g.may = true) (h : f.lines ++ r = g.lines ++ s) : f = g ∧ r = s := by
  obtain ⟨_, _, f3, _, f5⟩ := fnc_parts hf
  obtain ⟨_, _, g3, _, g5⟩ := fnc_parts hg
  simp only [Fnc.lines, List.cons_append, List.append_assoc, List.cons.injEq, Prod.mk.injEq, true_and, List.nil_append] at h
  obtain ⟨h1, h2, h3⟩ := head_cut hf hg h.1
  obtain ⟨h4, h5⟩ := vars_cut _ _ _ _ f3 g3 (body_no_var f5 1 _) (body_no_var g5 1 _) h.2
  obtain ⟨h6, h7⟩ := Sts.cut _ _ _ 1 _ _ (Nat.lt_succ_self _) f5 g5 (close_of _ rfl) (close_of _ rfl) h5
  simp only [List.cons.injEq, true_and] at h7
  obtain ⟨a1, a2, a3, a4, a5⟩ := f
  obtain ⟨b1, b2, b3, b4, b5⟩ := g
  simp only at h1 h2 h3 h4 h6
  exact ⟨by rw [h1, h2, h3, h4, h6], h7⟩
theorem fns_cut : ∀ (a b : List Fnc), a.all Fnc.may = true → b.all Fnc.may = true → a.flatMap Fnc.lines = b.flatMap Fnc.lines → a = b
  | [], [], _, _, _ => rfl
  | [], y :: b, _, _, h => by simp [Fnc.lines] at h
  | x :: a, [], _, _, h => by simp [Fnc.lines] at h
  | x :: a, y :: b, ha, hb, h => by
    simp only [List.all_cons, Bool.and_eq_true] at ha hb
    simp only [List.flatMap_cons] at h
    obtain ⟨h1, h2⟩ := fnc_cut ha.1 hb.1 h
    rw [h1, fns_cut a b ha.2 hb.2 h2]
theorem rgn_parts {r : Rgn} (h : r.may = true) : ∃ nm a n sc, r = ⟨nm, (a : Nat), (n : Nat), sc⟩ ∧ nameB nm = true := by
  unfold Rgn.may at h
  rw [Bool.and_eq_true, Bool.and_eq_true] at h
  have h1 := of_decide_eq_true h.2.1
  have h2 := of_decide_eq_true h.2.2
  obtain ⟨nm, a, n, sc⟩ := r
  simp only at h1 h2 h
  obtain ⟨a', rfl⟩ := Int.eq_ofNat_of_zero_le h1
  obtain ⟨n', rfl⟩ := Int.eq_ofNat_of_zero_le h2
  exact ⟨nm, a', n', sc, rfl, h.1⟩
theorem rline_form (nm : List UInt8) (a n : Nat) (sc : Bool) : (Rgn.mk nm (a : Nat) (n : Nat) sc).line = [114, 101, 103, 105, 111, 110] ++ 32 :: (nm ++ 32 :: (Lib.decDigits a ++ 32 :: (Lib.decDigits n ++ (secT sc ++ [59])))) := by simp [Rgn.line]
theorem rgn_cut {r s : Rgn} (hr : r.may = true) (hs : s.may = true) (h : r.line = s.line) : r = s := by
  obtain ⟨nm, a, n, sc, rfl, hn⟩ := rgn_parts hr
  obtain ⟨nm', a', n', sc', rfl, hn'⟩ := rgn_parts hs
  rw [rline_form, rline_form] at h
  simp only [List.cons_append, List.nil_append, List.cons.injEq, true_and] at h
  obtain ⟨h1, h2⟩ := word_cut _ _ _ _ (name_parts hn).1 (name_parts hn').1 (b32 _) (b32 _) h
  simp only [List.cons.injEq, true_and] at h2
  obtain ⟨h3, h4⟩ := dec_cut (b32 _) (b32 _) h2
  simp only [List.cons.injEq, true_and] at h4
  obtain ⟨h5, h6⟩ := dec_cut (sec_brk _ _ (by decide)) (sec_brk _ _ (by decide)) h4
  rw [h1, h3, h5, (sec_cut (by decide) (by decide) h6).1]
theorem regs_cut : ∀ (a b : List Rgn) (f g : List Fnc), a.all Rgn.may = true → b.all Rgn.may = true → a.map (fun r => (0, r.line)) ++ f.flatMap Fnc.lines = b.map (fun r => (0, r.line)) ++ g.flatMap Fnc.lines → a = b ∧ f.flatMap Fnc.lines = g.flatMap Fnc.lines
  | [], [], _, _, _, _, h => ⟨rfl, h⟩
  | [], y :: b, f, g, _, hb, h => by
    simp only [List.all_cons, Bool.and_eq_true] at hb
    obtain ⟨nm, a, n, sc, rfl, hn⟩ := rgn_parts hb.1
    simp only [List.map_nil, List.map_cons, List.nil_append, List.cons_append, rline_form] at h
    cases f with
    | nil => simp at h
    | cons x f => simp [Fnc.lines, head_form] at h
  | x :: a, [], f, g, ha, _, h => by
    simp only [List.all_cons, Bool.and_eq_true] at ha
    obtain ⟨nm, a', n, sc, rfl, hn⟩ := rgn_parts ha.1
    simp only [List.map_nil, List.map_cons, List.nil_append, List.cons_append, rline_form] at h
    cases g with
    | nil => simp at h
    | cons x g => simp [Fnc.lines, head_form] at h
  | x :: a, y :: b, f, g, ha, hb, h => by
    simp only [List.map_cons, List.cons_append, List.cons.injEq, Prod.mk.injEq, true_and] at h
    simp only [List.all_cons, Bool.and_eq_true] at ha hb
    obtain ⟨h3, h4⟩ := regs_cut a b f g ha.2 hb.2 h.2
    exact ⟨by rw [rgn_cut ha.1 hb.1 h.1, h3], h4⟩
theorem prg_cut {p q : Prg} (hp : p.may = true) (hq : q.may = true) (h : p.lines = q.lines) : p = q := by
  unfold Prg.may at hp hq
  rw [Bool.and_eq_true] at hp hq
  obtain ⟨a, f⟩ := p
  obtain ⟨b, g⟩ := q
  simp only [Prg.lines] at h hp hq
  obtain ⟨h1, h2⟩ := regs_cut a b f g hp.1 hq.1 h
  rw [h1, fns_cut f g hp.2 hq.2 h2]

/-- a line's text: no end of line in it, no tab ahead -/
def Ln (s : List UInt8) : Prop := (∀ c ∈ s, c ≠ 10) ∧ ∃ c r, s = c :: r ∧ c ≠ 9
theorem line_cut {x y : Nat × List UInt8} {r s : List UInt8} (hx : Ln x.2) (hy : Ln y.2) (h : lineT x ++ r = lineT y ++ s) : x = y ∧ r = s := by
  obtain ⟨a, p⟩ := x
  obtain ⟨b, q⟩ := y
  obtain ⟨hx1, c, p', rfl, hc⟩ := hx
  obtain ⟨hy1, d, q', rfl, hd⟩ := hy
  simp only [lineT, List.append_assoc] at h
  have tabs : ∀ (a b : Nat) (u v : List UInt8), List.replicate a 9 ++ (c :: u) = List.replicate b 9 ++ (d :: v) → a = b ∧ c :: u = d :: v := by
    intro a
    induction a with
    | zero =>
      intro b u v h
      cases b with
      | zero => exact ⟨rfl, h⟩
      | succ b => simp only [List.replicate_zero, List.nil_append, List.replicate_succ, List.cons_append, List.cons.injEq] at h; exact absurd h.1 hc
    | succ a ih =>
      intro b u v h
      cases b with
      | zero => simp only [List.replicate_zero, List.nil_append, List.replicate_succ, List.cons_append, List.cons.injEq] at h; exact absurd h.1.symm hd
      | succ b =>
        simp only [List.replicate_succ, List.cons_append, List.cons.injEq, true_and] at h
        obtain ⟨h1, h2⟩ := ih b u v h
        exact ⟨by rw [h1], h2⟩
  have nl : ∀ (u v r s : List UInt8), (∀ c ∈ u, c ≠ 10) → (∀ c ∈ v, c ≠ 10) → u ++ 10 :: r = v ++ 10 :: s → u = v ∧ r = s := by
    intro u
    induction u with
    | nil =>
      intro v r s _ hv h
      cases v with
      | nil => simp only [List.nil_append, List.cons.injEq, true_and] at h; exact ⟨rfl, h⟩
      | cons y v => simp only [List.nil_append, List.cons_append, List.cons.injEq] at h; exact absurd h.1.symm (hv y (by simp))
    | cons x u ih =>
      intro v r s hu hv h
      cases v with
      | nil => simp only [List.nil_append, List.cons_append, List.cons.injEq] at h; exact absurd h.1 (hu x (by simp))
      | cons y v =>
        simp only [List.cons_append, List.cons.injEq] at h
        obtain ⟨h1, h2⟩ := ih v r s (fun c hc => hu c (by simp [hc])) (fun c hc => hv c (by simp [hc])) h.2
        exact ⟨by rw [h.1, h1], h2⟩
  simp only [List.cons_append] at h
  obtain ⟨h1, h2⟩ := tabs _ _ _ _ h
  obtain ⟨h3, h4⟩ := nl (c :: p') (d :: q') r s hx1 hy1 (by simpa using h2)
  exact ⟨by rw [h1, h3], h4⟩
theorem lines_cut : ∀ (l m : List (Nat × List UInt8)), (∀ x ∈ l, Ln x.2) → (∀ x ∈ m, Ln x.2) → linesT l = linesT m → l = m
  | [], [], _, _, _ => rfl
  | [], y :: m, _, _, h => by
    have := congrArg List.length h
    simp [linesT, lineT] at this
  | x :: l, [], _, _, h => by
    have := congrArg List.length h
    simp [linesT, lineT] at this
  | x :: l, y :: m, hl, hm, h => by
    simp only [linesT, List.flatMap_cons] at h
    obtain ⟨h1, h2⟩ := line_cut (hl x (by simp)) (hm y (by simp)) h
    rw [h1, lines_cut l m (fun z hz => hl z (by simp [hz])) (fun z hz => hm z (by simp [hz])) h2]
/-- no end of line -/
def Nl (s : List UInt8) : Prop := ∀ c ∈ s, c ≠ 10
instance nlDec (s : List UInt8) : Decidable (Nl s) := inferInstanceAs (Decidable (∀ c ∈ s, c ≠ 10))
theorem Nl.nil : Nl [] := fun _ h => by cases h
theorem Nl.cons {c : UInt8} {s : List UInt8} (h : c ≠ 10) (k : Nl s) : Nl (c :: s) := fun d hd => by
  rw [List.mem_cons] at hd
  rcases hd with rfl | hd
  · exact h
  · exact k d hd
theorem Nl.app {a b : List UInt8} (h : Nl a) (k : Nl b) : Nl (a ++ b) := fun d hd => by
  rw [List.mem_append] at hd
  rcases hd with hd | hd
  · exact h d hd
  · exact k d hd
theorem nl_parts {s : List UInt8} (h : s.all isPart = true) : Nl s := fun c hc e => by
  rw [List.all_eq_true] at h
  have := h c hc
  rw [e] at this; revert this; decide
theorem nl_name {s : List UInt8} (h : nameB s = true) : Nl s := nl_parts (name_parts h).1
theorem nl_dec (n : Nat) : Nl (Lib.decDigits n) := nl_parts (dec_parts n).1
theorem nl_sec (b : Bool) : Nl (secT b) := by cases b <;> decide
theorem nl_sign {o : Int} (h1 : 6 ≤ o) (h2 : o ≤ 20) : Nl (signOf o) := by
  rcases fifteen h1 h2 with rfl | rfl | rfl | rfl | rfl | rfl | rfl | rfl | rfl | rfl | rfl | rfl | rfl | rfl | rfl <;> decide
theorem Ex.nl : ∀ (n : Nat) (x : Ex), x.size < n → x.may = true → Nl x.text
  | 0, _, h, _ => absurd h (Nat.not_lt_zero _)
  | n + 1, x, hsz, hx => by
    have ih := Ex.nl n
    have H := Ex.shape hx
    clear hx
    generalize x.text = t at *
    cases H with
    | const wd => exact nl_dec wd
    | var nm hn => exact nl_name hn
    | index nm hn y hy => exact (nl_name hn).app (.cons (by decide) ((ih y (by simp only [Ex.size, Exs.size] at hsz; omega) hy).app (by decide)))
    | not y hy => exact .cons (by decide) (ih y (by simp only [Ex.size, Exs.size] at hsz; omega) hy)
    | neg y hy => exact .cons (by decide) (ih y (by simp only [Ex.size, Exs.size] at hsz; omega) hy)
    | pick x y z hx hy hz =>
      exact Nl.app (by decide) (.cons (by decide) ((ih x (by simp only [Ex.size, Exs.size] at hsz; omega) hx).app (.cons (by decide) (.cons (by decide)
        ((ih y (by simp only [Ex.size, Exs.size] at hsz; omega) hy).app (.cons (by decide) (.cons (by decide) ((ih z (by simp only [Ex.size, Exs.size] at hsz; omega) hz).app (by decide)))))))))
    | two op h1 h2 x y hx hy =>
      exact .cons (by decide) ((ih x (by simp only [Ex.size, Exs.size] at hsz; omega) hx).app (.cons (by decide) ((nl_sign h1 h2).app (.cons (by decide) ((ih y (by simp only [Ex.size, Exs.size] at hsz; omega) hy).app (by decide))))))
theorem ex_nl {x : Ex} (h : x.may = true) : Nl x.text := Ex.nl _ x (Nat.lt_succ_self _) h
theorem nl_tail : ∀ (l : List (List UInt8)), (∀ x ∈ l, Nl x) → Nl (Lib.joinTail [44, 32] l)
  | [], _ => Nl.nil
  | x :: r, h => by rw [joinTail_cons]; exact .cons (by decide) (.cons (by decide) ((h x (by simp)).app (nl_tail r fun y hy => h y (by simp [hy]))))
theorem nl_join (l : List (List UInt8)) (h : ∀ x ∈ l, Nl x) : Nl (Lib.join l [44, 32]) := by
  cases l with
  | nil => exact Nl.nil
  | cons x r => rw [Lib.join_cons]; exact (h x (by simp)).app (nl_tail r fun y hy => h y (by simp [hy]))
theorem names_nl {l : List (List UInt8)} (h : namesB l = true) : ∀ x ∈ l, Nl x := fun x hx => by
  unfold namesB at h
  rw [List.all_eq_true] at h
  exact nl_name (h x hx)
theorem exs_nl : ∀ (a : Exs), a.may = true → ∀ t ∈ a.texts, Nl t
  | .nil, _ => fun _ h => by cases h
  | .cons x r, h => by
    rw [Exs.may, Bool.and_eq_true] at h
    intro t ht
    simp only [Exs.texts, List.mem_cons] at ht
    rcases ht with rfl | ht
    · exact ex_nl h.1
    · exact exs_nl r h.2 t ht
theorem first_nl {x : St} (h : x.may = true) : Nl x.first := by
  have H := St.shape h
  clear h
  generalize x.first = t at *
  cases H with
  | set nm hn e he => exact (nl_name hn).app (.cons (by decide) (.cons (by decide) (.cons (by decide) ((ex_nl he).app (by decide)))))
  | put nm hn a ha e he => exact (nl_name hn).app (.cons (by decide) ((ex_nl ha).app (.cons (by decide) (.cons (by decide) (.cons (by decide) (.cons (by decide) ((ex_nl he).app (by decide))))))))
  | ifs e he bd el hb hl => exact Nl.app (by decide) (.cons (by decide) ((ex_nl he).app (by decide)))
  | whl e he bd hb => exact Nl.app (by decide) (.cons (by decide) ((ex_nl he).app (by decide)))
  | «for» nm hn lo hi bd hb => exact Nl.app (by decide) (.cons (by decide) ((nl_name hn).app (.cons (by decide) ((nl_dec lo).app (.cons (by decide) ((nl_dec hi).app (by decide)))))))
  | call nm hn g hg => exact (nl_name hn).app (.cons (by decide) ((nl_join _ (exs_nl g hg)).app (by decide)))
  | calls n0 h0 ns hs nm hn g hg => exact (nl_name h0).app ((nl_tail _ (names_nl hs)).app (.cons (by decide) (.cons (by decide) (.cons (by decide) ((nl_name hn).app (.cons (by decide) ((nl_join _ (exs_nl g hg)).app (by decide))))))))
theorem word_ln {w t : List UInt8} (h : Word0 w t) (hw : w ≠ []) : ∃ c r, t = c :: r ∧ c ≠ 9 := by
  obtain ⟨r, rfl, h1, _⟩ := h
  cases w with
  | nil => exact absurd rfl hw
  | cons c s =>
    rw [List.all_cons, Bool.and_eq_true] at h1
    refine ⟨c, s ++ r, rfl, fun e => ?_⟩
    rw [e] at h1; exact absurd h1.1 (by decide)
theorem first_ln {x : St} (h : x.may = true) : Ln x.first := by
  obtain ⟨w, h1, h2⟩ := (St.shape h).word
  refine ⟨first_nl h, word_ln h1 ?_⟩
  rintro rfl
  rcases h2 with h2 | h2 <;> (revert h2; decide)
theorem ln_125 : Ln [125] := ⟨by decide, _, _, rfl, by decide⟩
theorem ln_else : Ln elseT := ⟨by decide, _, _, rfl, by decide⟩
mutual
theorem St.lines_ln : ∀ (x : St) (t : Nat), x.may = true → ∀ y ∈ x.lines t, Ln y.2
  | .mk kd nm ns e a g lo hi bd el, t, h => by
    have hf := first_ln h
    have hB := may_block h
    have hb := Sts.lines_ln bd (t + 1) hB.1
    have hl := Sts.lines_ln el (t + 1) hB.2.1
    intro y hy
    simp only [St.lines, List.mem_cons, first_eq] at hy
    rcases hy with rfl | hy
    · exact hf
    · split at hy
      · rw [List.mem_append, List.mem_append] at hy
        rcases hy with hy | hy | hy
        · exact hb y hy
        · split at hy
          · cases hy
          · rw [List.mem_cons] at hy
            rcases hy with rfl | hy
            · exact ln_else
            · exact hl y hy
        · rw [List.mem_singleton] at hy
          subst hy
          exact ln_125
      · cases hy
theorem Sts.lines_ln : ∀ (l : Sts) (t : Nat), l.may = true → ∀ y ∈ l.lines t, Ln y.2
  | .nil, _, _ => fun _ h => by cases h
  | .cons x r, t, h => by
    rw [Sts.may, Bool.and_eq_true] at h
    intro y hy
    simp only [Sts.lines, List.mem_append] at hy
    rcases hy with hy | hy
    · exact St.lines_ln x t h.1 y hy
    · exact Sts.lines_ln r t h.2 y hy
end
theorem var_ln {v : Vr} (h : v.may = true) : Ln v.line := by
  obtain ⟨w, h1, h2⟩ := line_word h
  refine ⟨?_, word_ln h1 (by rcases h2 with rfl | rfl | rfl <;> simp)⟩
  rcases may_var h with ⟨nm, rfl, hn⟩ | ⟨nm, n, sc, rfl | rfl, hn⟩
  · rw [line_1]; exact Nl.app (by decide) (.cons (by decide) ((nl_name hn).app (by decide)))
  · rw [line_2]; exact Nl.app (by decide) (.cons (by decide) ((nl_name hn).app (.cons (by decide) ((nl_dec n).app ((nl_sec sc).app (by decide))))))
  · rw [line_3]; exact Nl.app (by decide) (.cons (by decide) ((nl_name hn).app (.cons (by decide) ((nl_dec n).app ((nl_sec sc).app (by decide))))))
theorem rgn_ln {r : Rgn} (h : r.may = true) : Ln r.line := by
  obtain ⟨nm, a, n, sc, rfl, hn⟩ := rgn_parts h
  rw [rline_form]
  exact ⟨Nl.app (by decide) (.cons (by decide) ((nl_name hn).app (.cons (by decide) ((nl_dec a).app (.cons (by decide) ((nl_dec n).app ((nl_sec sc).app (by decide)))))))), _, _, rfl, by decide⟩
theorem head_ln {f : Fnc} (h : f.may = true) : Ln f.head := by
  obtain ⟨f1, f2, _, f4, _⟩ := fnc_parts h
  rw [head_form]
  refine ⟨Nl.app (by decide) (.cons (by decide) ((nl_name f1).app (.cons (by decide) (Nl.app (nl_join _ ?_) (.cons (by decide) (Nl.app ?_ (by decide))))))), _, _, rfl, by decide⟩
  · intro x hx
    rw [List.mem_map] at hx
    obtain ⟨v, hv, rfl⟩ := hx
    rw [List.all_eq_true] at f2
    exact (nl_name (mayP_parts (f2 v hv)).1).app (nl_sec _)
  · split
    · exact Nl.nil
    · exact Nl.app (by decide) (nl_join _ (names_nl f4))
theorem fnc_ln {f : Fnc} (h : f.may = true) : ∀ y ∈ f.lines, Ln y.2 := by
  obtain ⟨_, _, f3, _, f5⟩ := fnc_parts h
  intro y hy
  simp only [Fnc.lines, List.mem_cons, List.mem_append, List.mem_map, List.not_mem_nil, or_false] at hy
  rcases hy with rfl | ⟨v, hv, rfl⟩ | hy | rfl
  · exact head_ln h
  · rw [List.all_eq_true] at f3; exact var_ln (f3 v hv)
  · exact Sts.lines_ln _ _ f5 y hy
  · exact ln_125
theorem prg_ln {p : Prg} (h : p.may = true) : ∀ y ∈ p.lines, Ln y.2 := by
  unfold Prg.may at h
  rw [Bool.and_eq_true, List.all_eq_true, List.all_eq_true] at h
  intro y hy
  simp only [Prg.lines, List.mem_append, List.mem_map, List.mem_flatMap] at hy
  rcases hy with ⟨r, hr, rfl⟩ | ⟨f, hf, hy⟩
  · exact rgn_ln (h.1 r hr)
  · exact fnc_ln (h.2 f hf) y hy
/-- THE TEXTS OF TWO PROGRAMS THAT CAN BE TOLD ARE ONE JUST IF THEY ARE -/
theorem text_apart {p q : Prg} (hp : p.may = true) (hq : q.may = true) : p.text = q.text ↔ p = q :=
  ⟨fun h => prg_cut hp hq (lines_cut _ _ (prg_ln hp) (prg_ln hq) h), fun h => by rw [h]⟩
end Go.Proofs.YtkjhofnkgcjcoaaDoor
