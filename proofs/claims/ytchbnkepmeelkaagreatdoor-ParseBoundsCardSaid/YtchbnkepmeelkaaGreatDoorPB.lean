/- K1, K2, K3, K4, K5, K6, K7, K8 as one. -/
import Derived.Test.YtchbnkepmeelkaaGreatDoorPA
import Derived.WalkMore
import Derived.Deep.CutBlock
import Derived.Deep.CutRange
import Derived.Defers
/- The parser as it lies in memory; the token at hand; is it that text. -/
namespace Go.Proofs.YtchbnkepmeelkaaGreatDoor
open Go.RowKit

def Tok.val (t : Tok) : Value := .agg #[.int .i64 (t.kind : Int), .string (str t.text), .int .u64 (t.word : Int), .int .i64 (t.line : Int), .int .i64 (t.col : Int)]
structure TkAt (w : World) (t : Tok) (b o : Nat) : Prop where
  kind : w.cell? ⟨b, o, none⟩ = some (.int .i64 (t.kind : Int))
  text : w.cell? ⟨b, o + 1, none⟩ = some (.string (str t.text))
  word : w.cell? ⟨b, o + 2, none⟩ = some (.int .u64 (t.word : Int))
  line : w.cell? ⟨b, o + 3, none⟩ = some (.int .i64 (t.line : Int))
  col : w.cell? ⟨b, o + 4, none⟩ = some (.int .i64 (t.col : Int))
/-- all as it was but one block -/
structure But (g : Nat) (w w' : World) : Prop where
  os : w'.os = w.os
  tape : w'.tape = w.tape
  output : w'.output = w.output
  size : w.heap.size ≤ w'.heap.size
  block : ∀ k, k < w.heap.size → k ≠ g → w'.heap[k]? = w.heap[k]?
theorem But.refl (g : Nat) (w : World) : But g w w := ⟨rfl, rfl, rfl, Nat.le_refl _, fun _ _ _ => rfl⟩
theorem But.trans {g : Nat} {a b c : World} (h : But g a b) (k : But g b c) : But g a c :=
  ⟨k.os.trans h.os, k.tape.trans h.tape, k.output.trans h.output, Nat.le_trans h.size k.size, fun i hi hn => (k.block i (Nat.lt_of_lt_of_le hi h.size) hn).trans (h.block i hi hn)⟩
theorem But.of_below {g : Nat} {w w' : World} (h : Below w.heap.size w w') : But g w w' := ⟨h.os, h.tape, h.output, h.size, fun k hk _ => h.block k hk⟩
/-- the parser at block pb: its tokens, how many are read, how deep it is -/
structure Ps (w : World) (pb tb tf tc : Nat) (ts : List Tok) (k d : Nat) : Prop where
  pr : w.heap[pb]? = some (.cells #[.slice (some ⟨tb, tf, none⟩) ts.length tc, .int .i64 (k : Int), .int .i64 (d : Int)] 201 (0, 0))
  tk : ∀ i t, ts[i]? = some t → TkAt w t tb (tf + i * 5)
  ne : tb ≠ pb
  lt : tb < w.heap.size
  ln : ts.length ≤ 140737488355328
theorem TkAt.of_block {w w' : World} {t : Tok} {b o : Nat} (h : TkAt w t b o) (hb : w'.heap[b]? = w.heap[b]?) : TkAt w' t b o := by
  have e : ∀ j, w'.cell? ⟨b, j, none⟩ = w.cell? ⟨b, j, none⟩ := fun j => World.cell?_of_block (w := w) hb
  exact ⟨(e _).trans h.kind, (e _).trans h.text, (e _).trans h.word, (e _).trans h.line, (e _).trans h.col⟩
theorem Ps.later {w w' : World} {pb tb tf tc k d : Nat} {ts : List Tok} (h : Ps w pb tb tf tc ts k d) (hB : Below w.heap.size w w') : Ps w' pb tb tf tc ts k d := by
  have hp : pb < w.heap.size := by
    by_cases hn : pb < w.heap.size
    · exact hn
    · have := h.pr; rw [Array.getElem?_eq_none (by omega)] at this; cases this
  exact ⟨(hB.block pb hp).trans h.pr, fun i t ht => (h.tk i t ht).of_block (hB.block tb h.lt), h.ne, Nat.lt_of_lt_of_le h.lt hB.size, h.ln⟩
theorem cell_blk {w : World} {g : Nat} {A : Array Value} {t : TypeId} {fz : Nat × Nat} (h : w.heap[g]? = some (.cells A t fz)) {j : Nat} {v : Value} (hv : A[j]? = some v) : w.cell? ⟨g, j, none⟩ = some v := by
  simp [World.cell?, h, hv]
set_option maxHeartbeats 1600000 in
theorem here_any (pb tb tf tc k d : Nat) (ts : List Tok) (t : Tok) (w : World) (h : Ps w pb tb tf tc ts k d) (hk : ts[k]? = some t) :
    Calls Tryz.prog 148 #[.pointer (some ⟨pb, 0, none⟩)] w fun e w' => e = .returned t.val ∧ Below w.heap.size w w' := by
  have hlt : k < ts.length := (List.getElem?_eq_some_iff.1 hk).1
  have hn := h.ln
  have hlt2 := h.lt
  obtain ⟨Z, hZ⟩ : ∃ Z : Array Value, Z = #[.int .i64 0, .string ⟨#[]⟩, .int .u64 0, .int .i64 0, .int .i64 0] := ⟨_, rfl⟩
  obtain ⟨w1, hw1⟩ : ∃ w1, w.alloc (.cells Z 156) = w1 := ⟨_, rfl⟩
  have hB1 : Below w.heap.size w w1 := by rw [← hw1]; exact (Below.refl _ _).alloc (Nat.le_refl _) _
  have hk1 : w1.heap[w.heap.size]? = some (.cells Z 156 (0, 0)) := by rw [← hw1]; exact heap_alloc_new w _
  have h1 := h.later hB1
  have c0 : w1.cell? ⟨pb, 0, none⟩ = some (.slice (some ⟨tb, tf, none⟩) ts.length tc) := cell_blk h1.pr rfl
  have c1 : w1.cell? ⟨pb, 1, none⟩ = some (.int .i64 (k : Int)) := cell_blk h1.pr rfl
  obtain ⟨t0, t1, t2, t3, t4⟩ := h1.tk k t hk
  have z0 : w1.cell? ⟨w.heap.size, 0, none⟩ = some (.int .i64 0) := cell_blk hk1 (by rw [hZ]; rfl)
  have z1 : w1.cell? ⟨w.heap.size, 1, none⟩ = some (.string ⟨#[]⟩) := cell_blk hk1 (by rw [hZ]; rfl)
  have z2 : w1.cell? ⟨w.heap.size, 2, none⟩ = some (.int .u64 0) := cell_blk hk1 (by rw [hZ]; rfl)
  have z3 : w1.cell? ⟨w.heap.size, 3, none⟩ = some (.int .i64 0) := cell_blk hk1 (by rw [hZ]; rfl)
  have z4 : w1.cell? ⟨w.heap.size, 4, none⟩ = some (.int .i64 0) := cell_blk hk1 (by rw [hZ]; rfl)
  have hf : ∀ j, w1.frozen? ⟨w.heap.size, j, none⟩ = false := fun j => by simp [World.frozen?, hk1]
  have f0 := hf 0
  have f1 := hf 1
  have f2 := hf 2
  have f3 := hf 3
  have f4 := hf 4
  have HB := Lib.hid hB1
  rw [hZ] at hw1
  clear h h1 hk hB1 hk1 hZ hf
  go_enter Tryz.func148, Tryz.ntmps148
  go_wp2_with fail
  try rw [hw1]
  clear hw1
  go_region
  go_wp2_with fail
  have hne : ∀ (i j : Nat), i ≠ j → (⟨w.heap.size, i, none⟩ : Addr) ≠ ⟨w.heap.size, j, none⟩ := fun i j h e => h (by cases e; rfl)
  refine bodyPost_ret (v := t.val) ?_ rfl ⟨rfl, (((((HB.out.setCell (p := ⟨w.heap.size, 0, none⟩) (Nat.le_refl _) _).setCell (p := ⟨w.heap.size, 1, none⟩) (Nat.le_refl _) _).setCell (p := ⟨w.heap.size, 2, none⟩) (Nat.le_refl _) _).setCell (p := ⟨w.heap.size, 3, none⟩) (Nat.le_refl _) _).setCell (p := ⟨w.heap.size, 4, none⟩) (Nat.le_refl _) _).drew⟩
  have y0 := World.cell?_setCell_same w1 ⟨w.heap.size, 0, none⟩ (.int .i64 (t.kind : Int)) z0
  simp [results, Tryz.results148, go_sem, Tok.val, z0, z1, z2, z3, z4]
end Go.Proofs.YtchbnkepmeelkaaGreatDoor
/- Is the token at hand that text; going on; what is wrong. -/
namespace Go.Proofs.YtchbnkepmeelkaaGreatDoor
open Go.RowKit

theorem fld0 (a c l m : Int) (b : ByteArray) (w : World) : (Instr.field 156 (.agg #[.int .i64 a, .string b, .int .u64 c, .int .i64 l, .int .i64 m]) 0).run Tryz.prog w = .ok (.int .i64 a) w := by kernel_rfl
theorem fld1 (a c l m : Int) (b : ByteArray) (w : World) : (Instr.field 156 (.agg #[.int .i64 a, .string b, .int .u64 c, .int .i64 l, .int .i64 m]) 1).run Tryz.prog w = .ok (.string b) w := by kernel_rfl
theorem fld2 (a c l m : Int) (b : ByteArray) (w : World) : (Instr.field 156 (.agg #[.int .i64 a, .string b, .int .u64 c, .int .i64 l, .int .i64 m]) 2).run Tryz.prog w = .ok (.int .u64 c) w := by kernel_rfl
theorem str_eqb (a b : List UInt8) : ((str a).toList == (str b).toList) = decide (a = b) := by
  have e : ∀ l : List UInt8, (str l).toList = l := fun l => ByteArray.toList_mk _
  rw [e, e]
  by_cases h : a = b
  · rw [decide_eq_true h, h]; exact beq_self_eq_true _
  · rw [decide_eq_false h]; exact beq_eq_false_iff_ne.2 h
set_option maxRecDepth 100000 in
set_option maxHeartbeats 1600000 in
theorem is_any (s : List UInt8) (pb tb tf tc k d : Nat) (ts : List Tok) (t : Tok) (w : World) (h : Ps w pb tb tf tc ts k d) (hk : ts[k]? = some t) :
    Calls Tryz.prog 87 #[.pointer (some ⟨pb, 0, none⟩), .string (str s)] w fun e w' => e = .returned (.bool (decide (t.text = s))) ∧ Below w.heap.size w w' := by
  have HH := Lib.hid (here_any pb tb tf tc k d ts t w h hk)
  have hq := str_eqb t.text s
  have hfl := fld1 (t.kind : Int) (t.word : Int) (t.line : Int) (t.col : Int)
  obtain ⟨A, hA⟩ : ∃ A, str t.text = A := ⟨_, rfl⟩
  obtain ⟨B, hB⟩ : ∃ B, str s = B := ⟨_, rfl⟩
  unfold Tok.val at HH
  rw [hA] at HH
  rw [hA, hB] at hq
  rw [hB]
  generalize decide (t.text = s) = b at *
  clear h hk hA hB
  go_enter Tryz.func87, Tryz.ntmps87
  go_wp2_with fail
  refine HH.out.mono ?_
  rintro z w1 ⟨rfl, hB1⟩
  have HB1 := Lib.hid hB1
  clear hB1
  go_wp2_with fail
  go_ret
  exact ⟨rfl, HB1.out⟩
theorem Ps.lt_pb {w : World} {pb tb tf tc k d : Nat} {ts : List Tok} (h : Ps w pb tb tf tc ts k d) : pb < w.heap.size := by
  by_cases hn : pb < w.heap.size
  · exact hn
  · have := h.pr; rw [Array.getElem?_eq_none (by omega)] at this; cases this
/-- the place set anew -/
theorem Ps.go {w : World} {pb tb tf tc k d : Nat} {ts : List Tok} (h : Ps w pb tb tf tc ts k d) (k' : Nat) : Ps (w.setCell ⟨pb, 1, none⟩ (.int .i64 (k' : Int))) pb tb tf tc ts k' d ∧ But pb w (w.setCell ⟨pb, 1, none⟩ (.int .i64 (k' : Int))) := by
  have hb : ∀ j, j ≠ pb → (w.setCell ⟨pb, 1, none⟩ (.int .i64 (k' : Int))).heap[j]? = w.heap[j]? := fun j hj => Below.heap_setCell w _ _ _ hj
  refine ⟨⟨?_, fun i t ht => (h.tk i t ht).of_block (hb tb h.ne), h.ne, by simpa [World.setCell] using h.lt, h.ln⟩, ⟨rfl, rfl, rfl, by simp [World.setCell], fun j _ hj => hb j hj⟩⟩
  rw [setCell_eq_setRow w pb 1 _ 201 (0, 0) _ h.pr, setRow_heap w pb _ _ 201 (0, 0) h.pr]
  rfl
theorem But.cell {g : Nat} {w w' : World} (h : But g w w') {p : Addr} (hp : p.block < w.heap.size) (hn : p.block ≠ g) : w'.cell? p = w.cell? p := World.cell?_of_block (w := w) (h.block p.block hp hn)
set_option maxRecDepth 100000 in
set_option maxHeartbeats 1600000 in
theorem take_any (s : List UInt8) (pb tb tf tc k d : Nat) (ts : List Tok) (t : Tok) (w : World) (h : Ps w pb tb tf tc ts k d) (hk : ts[k]? = some t) :
    Calls Tryz.prog 152 #[.pointer (some ⟨pb, 0, none⟩), .string (str s)] w fun e w' => e = .returned (.bool (decide (t.text = s))) ∧ Ps w' pb tb tf tc ts (if t.text = s then k + 1 else k) d ∧ But pb w w' := by
  have hlt : k < ts.length := (List.getElem?_eq_some_iff.1 hk).1
  have hl := h.ln
  have HI := Lib.hid (is_any s pb tb tf tc k d ts t w h hk)
  have HP := Lib.hid (fun (w' : World) (hB : Below w.heap.size w w') => h.later hB)
  clear h
  by_cases he : t.text = s
  · rw [decide_eq_true he] at HI ⊢
    rw [if_pos he]
    have hw : IntKind.i64.wrap ((k : Int) + 1) = ((k + 1 : Nat) : Int) := by simp [IntKind.wrap, IntKind.bits, IntKind.signed]; omega
    have hw2 : ((k + 1 : Nat) : Int) = (k : Int) + 1 := by omega
    go_enter Tryz.func152, Tryz.ntmps152
    go_wp2_with fail
    refine HI.out.mono ?_
    rintro z w1 ⟨rfl, hB1⟩
    have h1 := HP.out w1 hB1
    have HG := Lib.hid (h1.go (k + 1))
    have HB1 := Lib.hid hB1
    have c1 : w1.cell? ⟨pb, 1, none⟩ = some (.int .i64 (k : Int)) := cell_blk h1.pr rfl
    have f1 : w1.frozen? ⟨pb, 1, none⟩ = false := by simp [World.frozen?, h1.pr]
    clear h1 hB1 HI
    go_wp2_with fail
    go_ret
    first
      | exact ⟨rfl, HG.out.1, (But.of_below HB1.out).trans HG.out.2⟩
      | (rw [← hw2]; exact ⟨rfl, HG.out.1, (But.of_below HB1.out).trans HG.out.2⟩)
      | trace_state
  · rw [decide_eq_false he] at HI ⊢
    rw [if_neg he]
    go_enter Tryz.func152, Tryz.ntmps152
    go_wp2_with fail
    refine HI.out.mono ?_
    rintro z w1 ⟨rfl, hB1⟩
    have HQ := Lib.hid (And.intro (HP.out w1 hB1) (But.of_below (g := pb) hB1))
    clear hB1 HI
    go_wp2_with fail
    go_ret
    exact ⟨rfl, HQ.out.1, HQ.out.2⟩
end Go.Proofs.YtchbnkepmeelkaaGreatDoor
/- What is wrong, and where; a token that must stand there. -/
namespace Go.Proofs.YtchbnkepmeelkaaGreatDoor
open Go.RowKit

theorem set3 {w : World} {g : Nat} {a b c : Value} {t : TypeId} {fz : Nat × Nat} (h : w.heap[g]? = some (.cells #[a, b, c] t fz)) (v0 v1 v2 : Value) :
    (((w.setCell ⟨g, 0, none⟩ v0).setCell ⟨g, 1, none⟩ v1).setCell ⟨g, 2, none⟩ v2).heap[g]? = some (.cells #[v0, v1, v2] t fz) := by
  have h0 : (w.setCell ⟨g, 0, none⟩ v0).heap[g]? = some (.cells #[v0, b, c] t fz) := by rw [setCell_eq_setRow w g 0 _ t fz _ h]; exact setRow_heap w g _ _ t fz h
  have h1 : ((w.setCell ⟨g, 0, none⟩ v0).setCell ⟨g, 1, none⟩ v1).heap[g]? = some (.cells #[v0, v1, c] t fz) := by rw [setCell_eq_setRow _ g 1 _ t fz _ h0]; exact setRow_heap _ g _ _ t fz h0
  rw [setCell_eq_setRow _ g 2 _ t fz _ h1]; exact setRow_heap _ g _ _ t fz h1
/-- the panic of what is wrong at a token -/
def WrongIs (e : Int) (t : Tok) : Ending := .panicked [{ v := .iface 166 (.agg #[.int .i64 e, .int .i64 (t.line : Int), .int .i64 (t.col : Int)]), recovered := false }]
set_option maxRecDepth 100000 in
set_option maxHeartbeats 1600000 in
theorem wrong_any (e : Int) (pb tb tf tc k d : Nat) (ts : List Tok) (t : Tok) (w : World) (h : Ps w pb tb tf tc ts k d) (hk : ts[k]? = some t) :
    Calls Tryz.prog 109 #[.pointer (some ⟨pb, 0, none⟩), .int .i64 e] w fun z w' => z = .returned (.agg #[.int .i64 e, .int .i64 (t.line : Int), .int .i64 (t.col : Int)]) ∧ Below w.heap.size w w' := by
  obtain ⟨W0, hW0⟩ : ∃ W0, w.alloc (.cells #[.int .i64 0, .int .i64 0, .int .i64 0] 166) = W0 := ⟨_, rfl⟩
  have hB0 : Below w.heap.size w W0 := by rw [← hW0]; exact (Below.refl _ _).alloc (Nat.le_refl _) _
  have hk0 : W0.heap[w.heap.size]? = some (.cells #[.int .i64 0, .int .i64 0, .int .i64 0] 166 (0, 0)) := by rw [← hW0]; exact heap_alloc_new w _
  have hz0 : w.heap.size < W0.heap.size := by rw [← hW0]; simp
  have HH := Lib.hid (here_any pb tb tf tc k d ts t W0 (h.later hB0) hk)
  unfold Tok.val at HH
  have HB0 := Lib.hid hB0
  have HK0 := Lib.hid hk0
  clear h hk hB0 hk0
  go_enter Tryz.func109, Tryz.ntmps109
  go_wp2_with fail
  try rw [hW0]
  refine HH.out.mono ?_
  rintro z w1 ⟨rfl, hB1⟩
  have hk1 := (hB1.block _ hz0).trans HK0.out
  have z0 : w1.cell? ⟨w.heap.size, 0, none⟩ = some (.int .i64 0) := cell_blk hk1 rfl
  have z1 : w1.cell? ⟨w.heap.size, 1, none⟩ = some (.int .i64 0) := cell_blk hk1 rfl
  have z2 : w1.cell? ⟨w.heap.size, 2, none⟩ = some (.int .i64 0) := cell_blk hk1 rfl
  have hf : ∀ j, w1.frozen? ⟨w.heap.size, j, none⟩ = false := fun j => by simp [World.frozen?, hk1]
  have f0 := hf 0
  have f1 := hf 1
  have f2 := hf 2
  have HB1 := Lib.hid (HB0.out.trans (hB1.mono HB0.out.size))
  have hz1 : w.heap.size < w1.heap.size := Nat.lt_of_lt_of_le hz0 hB1.size
  have hY := set3 hk1 (.int .i64 e) (.int .i64 (t.line : Int)) (.int .i64 (t.col : Int))
  obtain ⟨Y, hYd⟩ : ∃ Y, ((w1.setCell ⟨w.heap.size, 0, none⟩ (.int .i64 e)).setCell ⟨w.heap.size, 1, none⟩ (.int .i64 (t.line : Int))).setCell ⟨w.heap.size, 2, none⟩ (.int .i64 (t.col : Int)) = Y := ⟨_, rfl⟩
  have hYb : Below w.heap.size w Y := by rw [← hYd]; exact ((HB1.out.setCell (p := ⟨w.heap.size, 0, none⟩) (Nat.le_refl _) _).setCell (p := ⟨w.heap.size, 1, none⟩) (Nat.le_refl _) _).setCell (p := ⟨w.heap.size, 2, none⟩) (Nat.le_refl _) _
  rw [hYd] at hY
  obtain ⟨X, hX⟩ : ∃ X, Y.alloc (.cells #[.int .i64 (t.kind : Int), .string (str t.text), .int .u64 (t.word : Int), .int .i64 (t.line : Int), .int .i64 (t.col : Int)] 156) = X := ⟨_, rfl⟩
  have hXk : X.heap[w.heap.size]? = some (.cells #[.int .i64 e, .int .i64 (t.line : Int), .int .i64 (t.col : Int)] 166 (0, 0)) := by
    rw [← hX, Below.heap_alloc _ _ _ (Array.getElem?_eq_some_iff.1 hY).1]; exact hY
  have HXb := Lib.hid (show Below w.heap.size w X by rw [← hX]; exact hYb.alloc hYb.size _)
  have x0 : X.cell? ⟨w.heap.size, 0, none⟩ = some (.int .i64 e) := cell_blk hXk rfl
  have x1 : X.cell? ⟨w.heap.size, 1, none⟩ = some (.int .i64 (t.line : Int)) := cell_blk hXk rfl
  have x2 : X.cell? ⟨w.heap.size, 2, none⟩ = some (.int .i64 (t.col : Int)) := cell_blk hXk rfl
  have HYd := Lib.hid hYd
  have HX := Lib.hid hX
  clear hB1 hf hk1 hW0 hY hYb hXk hYd hX
  go_wp2_with fail
  rw [HYd.out, HX.out]
  refine bodyPost_ret (v := .agg #[.int .i64 e, .int .i64 (t.line : Int), .int .i64 (t.col : Int)]) ?_ rfl ⟨rfl, HXb.out⟩
  simp [results, Tryz.results109, go_sem, x0, x1, x2]
set_option maxRecDepth 100000 in
set_option maxHeartbeats 1600000 in
theorem want_yes (s : List UInt8) (pb tb tf tc k d : Nat) (ts : List Tok) (t : Tok) (w : World) (h : Ps w pb tb tf tc ts k d) (hk : ts[k]? = some t) (hs : t.text = s) :
    Calls Tryz.prog 149 #[.pointer (some ⟨pb, 0, none⟩), .string (str s)] w fun e w' => e = .returned (.tuple #[]) ∧ Ps w' pb tb tf tc ts (k + 1) d ∧ But pb w w' := by
  have HT := Lib.hid (take_any s pb tb tf tc k d ts t w h hk)
  rw [decide_eq_true hs, if_pos hs] at HT
  clear h hk hs
  go_enter Tryz.func149, Tryz.ntmps149
  go_wp2_with fail
  refine HT.out.mono ?_
  rintro z w1 ⟨rfl, h1, h2⟩
  have HQ := Lib.hid (And.intro h1 h2)
  clear h1 h2
  go_wp2_with fail
  first | (go_end0; exact ⟨rfl, HQ.out⟩) | (refine bodyPost_ret (results_none rfl _ _ _) rfl ⟨rfl, HQ.out⟩)
set_option maxRecDepth 100000 in
set_option maxHeartbeats 1600000 in
theorem want_no (s : List UInt8) (pb tb tf tc k d : Nat) (ts : List Tok) (t : Tok) (w : World) (h : Ps w pb tb tf tc ts k d) (hk : ts[k]? = some t) (hs : t.text ≠ s) :
    Calls Tryz.prog 149 #[.pointer (some ⟨pb, 0, none⟩), .string (str s)] w fun e w' => e = WrongIs 15 t ∧ Ps w' pb tb tf tc ts k d ∧ But pb w w' := by
  have HT := Lib.hid (take_any s pb tb tf tc k d ts t w h hk)
  rw [decide_eq_false hs, if_neg hs] at HT
  have HW := Lib.hid (fun (w' : World) (h' : Ps w' pb tb tf tc ts k d) => wrong_any 15 pb tb tf tc k d ts t w' h' hk)
  clear h hk hs
  go_enter Tryz.func149, Tryz.ntmps149
  go_wp2_with fail
  refine HT.out.mono ?_
  rintro z w1 ⟨rfl, h1, h2⟩
  have HQ := Lib.hid (And.intro h1 h2)
  clear h1 h2
  go_wp2_with fail
  refine (HW.out w1 HQ.out.1).mono ?_
  rintro z w2 ⟨rfl, hB2⟩
  have HR := Lib.hid (And.intro (HQ.out.1.later hB2) (HQ.out.2.trans (But.of_below (g := pb) hB2)))
  clear hB2
  go_wp2_with fail
  exact ⟨rfl, rfl, HR.out⟩
end Go.Proofs.YtchbnkepmeelkaaGreatDoor
/- A token of a kind; a name, a number. -/
namespace Go.Proofs.YtchbnkepmeelkaaGreatDoor
open Go.RowKit

theorem set5 {w : World} {g : Nat} {a b c d' e : Value} {t : TypeId} {fz : Nat × Nat} (h : w.heap[g]? = some (.cells #[a, b, c, d', e] t fz)) (v0 v1 v2 v3 v4 : Value) :
    (((((w.setCell ⟨g, 0, none⟩ v0).setCell ⟨g, 1, none⟩ v1).setCell ⟨g, 2, none⟩ v2).setCell ⟨g, 3, none⟩ v3).setCell ⟨g, 4, none⟩ v4).heap[g]? = some (.cells #[v0, v1, v2, v3, v4] t fz) := by
  have h0 : (w.setCell ⟨g, 0, none⟩ v0).heap[g]? = some (.cells #[v0, b, c, d', e] t fz) := by rw [setCell_eq_setRow w g 0 _ t fz _ h]; exact setRow_heap w g _ _ t fz h
  have h1 : ((w.setCell ⟨g, 0, none⟩ v0).setCell ⟨g, 1, none⟩ v1).heap[g]? = some (.cells #[v0, v1, c, d', e] t fz) := by rw [setCell_eq_setRow _ g 1 _ t fz _ h0]; exact setRow_heap _ g _ _ t fz h0
  have h2 : (((w.setCell ⟨g, 0, none⟩ v0).setCell ⟨g, 1, none⟩ v1).setCell ⟨g, 2, none⟩ v2).heap[g]? = some (.cells #[v0, v1, v2, d', e] t fz) := by rw [setCell_eq_setRow _ g 2 _ t fz _ h1]; exact setRow_heap _ g _ _ t fz h1
  have h3 : ((((w.setCell ⟨g, 0, none⟩ v0).setCell ⟨g, 1, none⟩ v1).setCell ⟨g, 2, none⟩ v2).setCell ⟨g, 3, none⟩ v3).heap[g]? = some (.cells #[v0, v1, v2, v3, e] t fz) := by rw [setCell_eq_setRow _ g 3 _ t fz _ h2]; exact setRow_heap _ g _ _ t fz h2
  rw [setCell_eq_setRow _ g 4 _ t fz _ h3]; exact setRow_heap _ g _ _ t fz h3
theorem But.putNew {g : Nat} {a w : World} (h : But g a w) {p : Addr} (hp : a.heap.size ≤ p.block) (v : Value) : But g a (w.setCell p v) :=
  ⟨h.os, h.tape, h.output, by simpa [World.setCell] using h.size, fun k hk hn => (Below.heap_setCell w _ _ _ (by omega)).trans (h.block k hk hn)⟩
theorem Ps.other {w : World} {pb tb tf tc k d : Nat} {ts : List Tok} (h : Ps w pb tb tf tc ts k d) {p : Addr} (h1 : p.block ≠ pb) (h2 : p.block ≠ tb) (v : Value) : Ps (w.setCell p v) pb tb tf tc ts k d :=
  ⟨(Below.heap_setCell w _ _ _ (fun e => h1 e.symm)).trans h.pr, fun i t ht => (h.tk i t ht).of_block (Below.heap_setCell w _ _ _ (fun e => h2 e.symm)), h.ne, by simpa [World.setCell] using h.lt, h.ln⟩
set_option maxRecDepth 100000 in
set_option maxHeartbeats 3200000 in
theorem token_yes (kd : Nat) (pb tb tf tc k d : Nat) (ts : List Tok) (t : Tok) (w : World) (h : Ps w pb tb tf tc ts k d) (hk : ts[k]? = some t) (hkd : t.kind = kd) :
    Calls Tryz.prog 218 #[.pointer (some ⟨pb, 0, none⟩), .int .i64 (kd : Int)] w fun z w' => z = .returned t.val ∧ Ps w' pb tb tf tc ts (k + 1) d ∧ But pb w w' := by
  subst hkd
  have hlt : k < ts.length := (List.getElem?_eq_some_iff.1 hk).1
  have hl := h.ln
  have hpb := h.lt_pb
  have htb := h.lt
  obtain ⟨W0, hW0⟩ : ∃ W0, w.alloc (.cells #[.int .i64 0, .string ⟨#[]⟩, .int .u64 0, .int .i64 0, .int .i64 0] 156) = W0 := ⟨_, rfl⟩
  have hB0 : Below w.heap.size w W0 := by rw [← hW0]; exact (Below.refl _ _).alloc (Nat.le_refl _) _
  have hk0 : W0.heap[w.heap.size]? = some (.cells #[.int .i64 0, .string ⟨#[]⟩, .int .u64 0, .int .i64 0, .int .i64 0] 156 (0, 0)) := by rw [← hW0]; exact heap_alloc_new w _
  have hz0 : w.heap.size < W0.heap.size := by rw [← hW0]; simp
  have HH := Lib.hid (here_any pb tb tf tc k d ts t W0 (h.later hB0) hk)
  unfold Tok.val at HH ⊢
  have HP0 := Lib.hid (h.later hB0)
  have HB0 := Lib.hid hB0
  have HK0 := Lib.hid hk0
  have hw : IntKind.i64.wrap ((k : Int) + 1) = ((k + 1 : Nat) : Int) := by simp [IntKind.wrap, IntKind.bits, IntKind.signed]; omega
  have hw2 : ((k + 1 : Nat) : Int) = (k : Int) + 1 := by omega
  clear h hk hB0 hk0
  go_enter Tryz.func218, Tryz.ntmps218
  go_wp2_with fail
  try rw [hW0]
  refine HH.out.mono ?_
  rintro z w1 ⟨rfl, hB1⟩
  obtain ⟨A, hA⟩ : ∃ A, w1.alloc (.cells #[.int .i64 (t.kind : Int), .string (str t.text), .int .u64 (t.word : Int), .int .i64 (t.line : Int), .int .i64 (t.col : Int)] 156) = A := ⟨_, rfl⟩
  have hBA : Below w1.heap.size w1 A := by rw [← hA]; exact (Below.refl _ _).alloc (Nat.le_refl _) _
  have hAL : A.heap[w1.heap.size]? = some (.cells #[.int .i64 (t.kind : Int), .string (str t.text), .int .u64 (t.word : Int), .int .i64 (t.line : Int), .int .i64 (t.col : Int)] 156 (0, 0)) := by rw [← hA]; exact heap_alloc_new w1 _
  have hB01 : Below W0.heap.size W0 A := hB1.trans (hBA.mono hB1.size)
  have hAR := (hB01.block _ hz0).trans HK0.out
  have hPA := HP0.out.later hB01
  have hwA : Below w.heap.size w A := HB0.out.trans (hB01.mono HB0.out.size)
  have hLs : w.heap.size < w1.heap.size := Nat.lt_of_lt_of_le hz0 hB1.size
  have l0 : A.cell? ⟨w1.heap.size, 0, none⟩ = some (.int .i64 (t.kind : Int)) := cell_blk hAL rfl
  have p1 : A.cell? ⟨pb, 1, none⟩ = some (.int .i64 (k : Int)) := cell_blk hPA.pr rfl
  have pf : A.frozen? ⟨pb, 1, none⟩ = false := by simp [World.frozen?, hPA.pr]
  have hgo := hPA.go (k + 1)
  rw [hw2] at hgo
  have hHB : ∀ g, g ≠ pb → (A.setCell ⟨pb, 1, none⟩ (.int .i64 ((k : Int) + 1))).heap[g]? = A.heap[g]? := fun g hg => Below.heap_setCell A _ _ _ hg
  obtain ⟨Bw, hBw⟩ : ∃ B, A.setCell ⟨pb, 1, none⟩ (.int .i64 ((k : Int) + 1)) = B := ⟨_, rfl⟩
  rw [hBw] at hgo hHB
  have hBR := (hHB w.heap.size (by omega)).trans hAR
  have hBL := (hHB w1.heap.size (by omega)).trans hAL
  have hwB : But pb w Bw := (But.of_below hwA).trans hgo.2
  have HPB := Lib.hid hgo.1
  have HBB := Lib.hid hwB
  have HR5 := Lib.hid (set5 hBR (.int .i64 (t.kind : Int)) (.string (str t.text)) (.int .u64 (t.word : Int)) (.int .i64 (t.line : Int)) (.int .i64 (t.col : Int)))
  have m0 : Bw.cell? ⟨w1.heap.size, 0, none⟩ = some (.int .i64 (t.kind : Int)) := cell_blk hBL rfl
  have m1 : Bw.cell? ⟨w1.heap.size, 1, none⟩ = some (.string (str t.text)) := cell_blk hBL rfl
  have m2 : Bw.cell? ⟨w1.heap.size, 2, none⟩ = some (.int .u64 (t.word : Int)) := cell_blk hBL rfl
  have m3 : Bw.cell? ⟨w1.heap.size, 3, none⟩ = some (.int .i64 (t.line : Int)) := cell_blk hBL rfl
  have m4 : Bw.cell? ⟨w1.heap.size, 4, none⟩ = some (.int .i64 (t.col : Int)) := cell_blk hBL rfl
  have z0 : Bw.cell? ⟨w.heap.size, 0, none⟩ = some (.int .i64 0) := cell_blk hBR rfl
  have z1 : Bw.cell? ⟨w.heap.size, 1, none⟩ = some (.string ⟨#[]⟩) := cell_blk hBR rfl
  have z2 : Bw.cell? ⟨w.heap.size, 2, none⟩ = some (.int .u64 0) := cell_blk hBR rfl
  have z3 : Bw.cell? ⟨w.heap.size, 3, none⟩ = some (.int .i64 0) := cell_blk hBR rfl
  have z4 : Bw.cell? ⟨w.heap.size, 4, none⟩ = some (.int .i64 0) := cell_blk hBR rfl
  have hf : ∀ j, Bw.frozen? ⟨w.heap.size, j, none⟩ = false := fun j => by simp [World.frozen?, hBR]
  have f0 := hf 0
  have f1 := hf 1
  have f2 := hf 2
  have f3 := hf 3
  have f4 := hf 4
  have HBw := Lib.hid hBw
  have HA := Lib.hid hA
  clear hB1 hBA hAL hB01 hAR hPA hwA hgo hHB hBR hBL hwB hf hBw hA hW0 HH HP0 HB0 HK0
  go_upto_region 2 with fail
  rw [HA.out]
  go_upto_region 5 with fail
  rw [HBw.out]
  clear l0 p1 pf
  go_wp2_with fail
  have hF := HR5.out
  have hne1 : w.heap.size ≠ pb := by omega
  have hne2 : w.heap.size ≠ tb := by omega
  refine bodyPost_ret (v := .agg #[.int .i64 (t.kind : Int), .string (str t.text), .int .u64 (t.word : Int), .int .i64 (t.line : Int), .int .i64 (t.col : Int)]) ?_ rfl ⟨rfl, ?_, ?_⟩
  · have y0 := cell_blk hF (j := 0) rfl
    have y1 := cell_blk hF (j := 1) rfl
    have y2 := cell_blk hF (j := 2) rfl
    have y3 := cell_blk hF (j := 3) rfl
    have y4 := cell_blk hF (j := 4) rfl
    generalize ((((Bw.setCell ⟨w.heap.size, 0, none⟩ (.int .i64 (t.kind : Int))).setCell ⟨w.heap.size, 1, none⟩ (.string (str t.text))).setCell ⟨w.heap.size, 2, none⟩ (.int .u64 (t.word : Int))).setCell ⟨w.heap.size, 3, none⟩ (.int .i64 (t.line : Int))).setCell ⟨w.heap.size, 4, none⟩ (.int .i64 (t.col : Int)) = F at *
    simp [results, Tryz.results218, go_sem, y0, y1, y2, y3, y4]
  · exact ((((HPB.out.other (p := ⟨w.heap.size, 0, none⟩) hne1 hne2 _).other (p := ⟨w.heap.size, 1, none⟩) hne1 hne2 _).other (p := ⟨w.heap.size, 2, none⟩) hne1 hne2 _).other (p := ⟨w.heap.size, 3, none⟩) hne1 hne2 _).other (p := ⟨w.heap.size, 4, none⟩) hne1 hne2 _
  · exact ((((HBB.out.putNew (p := ⟨w.heap.size, 0, none⟩) (Nat.le_refl _) _).putNew (p := ⟨w.heap.size, 1, none⟩) (Nat.le_refl _) _).putNew (p := ⟨w.heap.size, 2, none⟩) (Nat.le_refl _) _).putNew (p := ⟨w.heap.size, 3, none⟩) (Nat.le_refl _) _).putNew (p := ⟨w.heap.size, 4, none⟩) (Nat.le_refl _) _
end Go.Proofs.YtchbnkepmeelkaaGreatDoor
/- A token of another kind; a name, a number, read or not; how deep. -/
namespace Go.Proofs.YtchbnkepmeelkaaGreatDoor
open Go.RowKit

set_option maxRecDepth 100000 in
set_option maxHeartbeats 3200000 in
theorem token_no (kd : Nat) (pb tb tf tc k d : Nat) (ts : List Tok) (t : Tok) (w : World) (h : Ps w pb tb tf tc ts k d) (hk : ts[k]? = some t) (hkd : t.kind ≠ kd) :
    Calls Tryz.prog 218 #[.pointer (some ⟨pb, 0, none⟩), .int .i64 (kd : Int)] w fun z w' => z = WrongIs 15 t ∧ Ps w' pb tb tf tc ts k d ∧ But pb w w' := by
  obtain ⟨W0, hW0⟩ : ∃ W0, w.alloc (.cells #[.int .i64 0, .string ⟨#[]⟩, .int .u64 0, .int .i64 0, .int .i64 0] 156) = W0 := ⟨_, rfl⟩
  have hB0 : Below w.heap.size w W0 := by rw [← hW0]; exact (Below.refl _ _).alloc (Nat.le_refl _) _
  have HH := Lib.hid (here_any pb tb tf tc k d ts t W0 (h.later hB0) hk)
  have HW := Lib.hid (fun (w' : World) (h' : Ps w' pb tb tf tc ts k d) => wrong_any 15 pb tb tf tc k d ts t w' h' hk)
  unfold Tok.val at HH
  have HP0 := Lib.hid (h.later hB0)
  have HB0 := Lib.hid hB0
  have hne : ((t.kind : Int) != (kd : Int)) = true := by simp; omega
  have hne2 : ¬ (t.kind : Int) = (kd : Int) := by omega
  unfold WrongIs
  clear h hk hB0
  go_enter Tryz.func218, Tryz.ntmps218
  go_wp2_with fail
  try rw [hW0]
  refine HH.out.mono ?_
  rintro z w1 ⟨rfl, hB1⟩
  obtain ⟨A, hA⟩ : ∃ A, w1.alloc (.cells #[.int .i64 (t.kind : Int), .string (str t.text), .int .u64 (t.word : Int), .int .i64 (t.line : Int), .int .i64 (t.col : Int)] 156) = A := ⟨_, rfl⟩
  have hBA : Below w1.heap.size w1 A := by rw [← hA]; exact (Below.refl _ _).alloc (Nat.le_refl _) _
  have hAL : A.heap[w1.heap.size]? = some (.cells #[.int .i64 (t.kind : Int), .string (str t.text), .int .u64 (t.word : Int), .int .i64 (t.line : Int), .int .i64 (t.col : Int)] 156 (0, 0)) := by rw [← hA]; exact heap_alloc_new w1 _
  have hB01 : Below W0.heap.size W0 A := hB1.trans (hBA.mono hB1.size)
  have HPA := Lib.hid (HP0.out.later hB01)
  have HwA := Lib.hid (HB0.out.trans (hB01.mono HB0.out.size))
  have l0 : A.cell? ⟨w1.heap.size, 0, none⟩ = some (.int .i64 (t.kind : Int)) := cell_blk hAL rfl
  have HA := Lib.hid hA
  clear hB1 hBA hAL hB01 hA hW0 HH HP0 HB0
  go_upto_region 2 with fail
  rw [HA.out]
  go_wp2_with fail
  refine (HW.out A HPA.out).mono ?_
  rintro z w2 ⟨rfl, hB2⟩
  have HR := Lib.hid (And.intro (HPA.out.later hB2) ((But.of_below (g := pb) HwA.out).trans (But.of_below (g := pb) hB2)))
  clear hB2
  go_wp2_with fail
  exact ⟨rfl, rfl, HR.out⟩
set_option maxHeartbeats 1600000 in
theorem name_yes (pb tb tf tc k d : Nat) (ts : List Tok) (t : Tok) (w : World) (h : Ps w pb tb tf tc ts k d) (hk : ts[k]? = some t) (hkd : t.kind = 1) :
    Calls Tryz.prog 150 #[.pointer (some ⟨pb, 0, none⟩)] w fun z w' => z = .returned (.string (str t.text)) ∧ Ps w' pb tb tf tc ts (k + 1) d ∧ But pb w w' := by
  have HT := Lib.hid (show Calls Tryz.prog 218 #[.pointer (some ⟨pb, 0, none⟩), .int .i64 1] w _ from token_yes 1 pb tb tf tc k d ts t w h hk hkd)
  unfold Tok.val at HT
  have hfl := fld1 (t.kind : Int) (t.word : Int) (t.line : Int) (t.col : Int) (str t.text)
  clear h hk hkd
  go_enter Tryz.func150, Tryz.ntmps150
  go_wp2_with fail
  refine HT.out.mono ?_
  rintro z w1 ⟨rfl, h1⟩
  have HQ := Lib.hid h1
  clear h1
  go_wp2_with fail
  go_ret
  exact ⟨rfl, HQ.out⟩
set_option maxHeartbeats 1600000 in
theorem name_no (pb tb tf tc k d : Nat) (ts : List Tok) (t : Tok) (w : World) (h : Ps w pb tb tf tc ts k d) (hk : ts[k]? = some t) (hkd : t.kind ≠ 1) :
    Calls Tryz.prog 150 #[.pointer (some ⟨pb, 0, none⟩)] w fun z w' => z = WrongIs 15 t ∧ Ps w' pb tb tf tc ts k d ∧ But pb w w' := by
  have HT := Lib.hid (show Calls Tryz.prog 218 #[.pointer (some ⟨pb, 0, none⟩), .int .i64 1] w _ from token_no 1 pb tb tf tc k d ts t w h hk hkd)
  unfold WrongIs at HT ⊢
  clear h hk hkd
  go_enter Tryz.func150, Tryz.ntmps150
  go_wp2_with fail
  refine HT.out.mono ?_
  rintro z w1 ⟨rfl, h1⟩
  have HQ := Lib.hid h1
  clear h1
  go_wp2_with fail
  exact ⟨rfl, rfl, HQ.out⟩
set_option maxHeartbeats 1600000 in
theorem number_yes (pb tb tf tc k d : Nat) (ts : List Tok) (t : Tok) (w : World) (h : Ps w pb tb tf tc ts k d) (hk : ts[k]? = some t) (hkd : t.kind = 3) :
    Calls Tryz.prog 163 #[.pointer (some ⟨pb, 0, none⟩)] w fun z w' => z = .returned (.int .u64 (t.word : Int)) ∧ Ps w' pb tb tf tc ts (k + 1) d ∧ But pb w w' := by
  have HT := Lib.hid (show Calls Tryz.prog 218 #[.pointer (some ⟨pb, 0, none⟩), .int .i64 3] w _ from token_yes 3 pb tb tf tc k d ts t w h hk hkd)
  unfold Tok.val at HT
  have hfl := fld2 (t.kind : Int) (t.word : Int) (t.line : Int) (t.col : Int) (str t.text)
  clear h hk hkd
  go_enter Tryz.func163, Tryz.ntmps163
  go_wp2_with fail
  refine HT.out.mono ?_
  rintro z w1 ⟨rfl, h1⟩
  have HQ := Lib.hid h1
  clear h1
  go_wp2_with fail
  go_ret
  exact ⟨rfl, HQ.out⟩
set_option maxHeartbeats 1600000 in
theorem number_no (pb tb tf tc k d : Nat) (ts : List Tok) (t : Tok) (w : World) (h : Ps w pb tb tf tc ts k d) (hk : ts[k]? = some t) (hkd : t.kind ≠ 3) :
    Calls Tryz.prog 163 #[.pointer (some ⟨pb, 0, none⟩)] w fun z w' => z = WrongIs 15 t ∧ Ps w' pb tb tf tc ts k d ∧ But pb w w' := by
  have HT := Lib.hid (show Calls Tryz.prog 218 #[.pointer (some ⟨pb, 0, none⟩), .int .i64 3] w _ from token_no 3 pb tb tf tc k d ts t w h hk hkd)
  unfold WrongIs at HT ⊢
  clear h hk hkd
  go_enter Tryz.func163, Tryz.ntmps163
  go_wp2_with fail
  refine HT.out.mono ?_
  rintro z w1 ⟨rfl, h1⟩
  have HQ := Lib.hid h1
  clear h1
  go_wp2_with fail
  exact ⟨rfl, rfl, HQ.out⟩
end Go.Proofs.YtchbnkepmeelkaaGreatDoor
/- A size; into what is begun, and out of it. -/
namespace Go.Proofs.YtchbnkepmeelkaaGreatDoor
open Go.RowKit

theorem Ps.deep {w : World} {pb tb tf tc k d : Nat} {ts : List Tok} (h : Ps w pb tb tf tc ts k d) (d' : Nat) : Ps (w.setCell ⟨pb, 2, none⟩ (.int .i64 (d' : Int))) pb tb tf tc ts k d' ∧ But pb w (w.setCell ⟨pb, 2, none⟩ (.int .i64 (d' : Int))) := by
  have hb : ∀ j, j ≠ pb → (w.setCell ⟨pb, 2, none⟩ (.int .i64 (d' : Int))).heap[j]? = w.heap[j]? := fun j hj => Below.heap_setCell w _ _ _ hj
  refine ⟨⟨?_, fun i t ht => (h.tk i t ht).of_block (hb tb h.ne), h.ne, by simpa [World.setCell] using h.lt, h.ln⟩, ⟨rfl, rfl, rfl, by simp [World.setCell], fun j _ hj => hb j hj⟩⟩
  rw [setCell_eq_setRow w pb 2 _ 201 (0, 0) _ h.pr, setRow_heap w pb _ _ 201 (0, 0) h.pr]
  rfl
set_option maxRecDepth 100000 in
set_option maxHeartbeats 1600000 in
theorem begin_yes (pb tb tf tc k d : Nat) (ts : List Tok) (w : World) (h : Ps w pb tb tf tc ts k d) (hd : d < 64) :
    Calls Tryz.prog 160 #[.pointer (some ⟨pb, 0, none⟩), .bool true] w fun z w' => z = .returned (.tuple #[]) ∧ Ps w' pb tb tf tc ts k (d + 1) ∧ But pb w w' := by
  have c2 : w.cell? ⟨pb, 2, none⟩ = some (.int .i64 (d : Int)) := cell_blk h.pr rfl
  have f2 : w.frozen? ⟨pb, 2, none⟩ = false := by simp [World.frozen?, h.pr]
  have hne : ((d : Int) == 64) = false := by simp; omega
  have hne2 : ¬ (d : Int) = 64 := by omega
  have hw : IntKind.i64.wrap ((d : Int) + 1) = (d : Int) + 1 := by simp [IntKind.wrap, IntKind.bits, IntKind.signed]; omega
  have hg := h.deep (d + 1)
  rw [show ((d + 1 : Nat) : Int) = (d : Int) + 1 by omega] at hg
  have HG := Lib.hid hg
  clear h hg
  go_enter Tryz.func160, Tryz.ntmps160
  go_wp2_with fail
  first | (go_end0; exact ⟨rfl, HG.out⟩) | (refine bodyPost_ret (results_none rfl _ _ _) rfl ⟨rfl, HG.out⟩)
set_option maxRecDepth 100000 in
set_option maxHeartbeats 1600000 in
theorem begin_nest (pb tb tf tc k d : Nat) (ts : List Tok) (t : Tok) (w : World) (h : Ps w pb tb tf tc ts k d) (hk : ts[k]? = some t) (hd : d = 64) :
    Calls Tryz.prog 160 #[.pointer (some ⟨pb, 0, none⟩), .bool true] w fun z w' => z = WrongIs 12 t ∧ Ps w' pb tb tf tc ts k d ∧ But pb w w' := by
  have HP := Lib.hid h
  have HW := Lib.hid (wrong_any 12 pb tb tf tc k d ts t w h hk)
  have c2 : w.cell? ⟨pb, 2, none⟩ = some (.int .i64 64) := by have := cell_blk h.pr (j := 2) rfl; rw [this, hd]; rfl
  unfold WrongIs
  clear h hk hd
  go_enter Tryz.func160, Tryz.ntmps160
  go_wp2_with fail
  refine HW.out.mono ?_
  rintro z w2 ⟨rfl, hB2⟩
  have HR := Lib.hid (And.intro (HP.out.later hB2) (But.of_below (g := pb) hB2))
  clear hB2
  go_wp2_with fail
  exact ⟨rfl, rfl, HR.out⟩
set_option maxRecDepth 100000 in
set_option maxHeartbeats 1600000 in
theorem begin_no (pb tb tf tc k d : Nat) (ts : List Tok) (t : Tok) (w : World) (h : Ps w pb tb tf tc ts k d) (hk : ts[k]? = some t) :
    Calls Tryz.prog 160 #[.pointer (some ⟨pb, 0, none⟩), .bool false] w fun z w' => z = WrongIs 15 t ∧ Ps w' pb tb tf tc ts k d ∧ But pb w w' := by
  have HP := Lib.hid h
  have HW := Lib.hid (wrong_any 15 pb tb tf tc k d ts t w h hk)
  unfold WrongIs
  clear h hk
  go_enter Tryz.func160, Tryz.ntmps160
  go_wp2_with fail
  refine HW.out.mono ?_
  rintro z w2 ⟨rfl, hB2⟩
  have HR := Lib.hid (And.intro (HP.out.later hB2) (But.of_below (g := pb) hB2))
  clear hB2
  go_wp2_with fail
  exact ⟨rfl, rfl, HR.out⟩
set_option maxRecDepth 100000 in
set_option maxHeartbeats 1600000 in
theorem size_yes (pb tb tf tc k d : Nat) (ts : List Tok) (t : Tok) (w : World) (h : Ps w pb tb tf tc ts k d) (hk : ts[k]? = some t) (hkd : t.kind = 3) (hs : t.word ≤ 2147483647) :
    Calls Tryz.prog 151 #[.pointer (some ⟨pb, 0, none⟩)] w fun z w' => z = .returned (.int .i64 (t.word : Int)) ∧ Ps w' pb tb tf tc ts (k + 1) d ∧ But pb w w' := by
  have HH := Lib.hid (here_any pb tb tf tc k d ts t w h hk)
  have HN := Lib.hid (fun (w' : World) (h' : Ps w' pb tb tf tc ts k d) => number_yes pb tb tf tc k d ts t w' h' hk hkd)
  have HP := Lib.hid h
  unfold Tok.val at HH
  have hfl := fld2 (t.kind : Int) (t.word : Int) (t.line : Int) (t.col : Int) (str t.text)
  have hle : ¬ (2147483647 : Int) < (t.word : Int) := by omega
  have hcv : IntKind.i64.wrap (t.word : Int) = (t.word : Int) := by simp [IntKind.wrap, IntKind.bits, IntKind.signed]; omega
  clear h hk hkd
  go_enter Tryz.func151, Tryz.ntmps151
  go_wp2_with fail
  refine HH.out.mono ?_
  rintro z w1 ⟨rfl, hB1⟩
  have HP1 := Lib.hid (HP.out.later hB1)
  have HB1 := Lib.hid (But.of_below (g := pb) hB1)
  clear hB1
  go_wp2_with fail
  refine (HN.out w1 HP1.out).mono ?_
  rintro z w2 ⟨rfl, h1, h2⟩
  have HQ := Lib.hid (And.intro h1 (HB1.out.trans h2))
  clear h1 h2
  go_wp2_with fail
  go_ret
  exact ⟨rfl, HQ.out⟩
end Go.Proofs.YtchbnkepmeelkaaGreatDoor
/- A size that is none; done, deferred. -/
namespace Go.Proofs.YtchbnkepmeelkaaGreatDoor
open Go.RowKit

set_option maxRecDepth 100000 in
set_option maxHeartbeats 1600000 in
theorem size_great (pb tb tf tc k d : Nat) (ts : List Tok) (t : Tok) (w : World) (h : Ps w pb tb tf tc ts k d) (hk : ts[k]? = some t) (hs : 2147483647 < t.word) :
    Calls Tryz.prog 151 #[.pointer (some ⟨pb, 0, none⟩)] w fun z w' => z = WrongIs 15 t ∧ Ps w' pb tb tf tc ts k d ∧ But pb w w' := by
  have HH := Lib.hid (here_any pb tb tf tc k d ts t w h hk)
  have HW := Lib.hid (fun (w' : World) (h' : Ps w' pb tb tf tc ts k d) => wrong_any 15 pb tb tf tc k d ts t w' h' hk)
  have HP := Lib.hid h
  unfold Tok.val at HH
  unfold WrongIs
  have hfl := fld2 (t.kind : Int) (t.word : Int) (t.line : Int) (t.col : Int) (str t.text)
  have hle : (2147483647 : Int) < (t.word : Int) := by omega
  clear h hk hs
  go_enter Tryz.func151, Tryz.ntmps151
  go_wp2_with fail
  refine HH.out.mono ?_
  rintro z w1 ⟨rfl, hB1⟩
  have HP1 := Lib.hid (HP.out.later hB1)
  have HB1 := Lib.hid (But.of_below (g := pb) hB1)
  clear hB1
  go_wp2_with fail
  refine (HW.out w1 HP1.out).mono ?_
  rintro z w2 ⟨rfl, hB2⟩
  have HQ := Lib.hid (And.intro (HP1.out.later hB2) (HB1.out.trans (But.of_below (g := pb) hB2)))
  clear hB2
  go_wp2_with fail
  exact ⟨rfl, rfl, HQ.out⟩
set_option maxRecDepth 100000 in
set_option maxHeartbeats 1600000 in
theorem size_no (pb tb tf tc k d : Nat) (ts : List Tok) (t : Tok) (w : World) (h : Ps w pb tb tf tc ts k d) (hk : ts[k]? = some t) (hkd : t.kind ≠ 3) (hs : t.word ≤ 2147483647) :
    Calls Tryz.prog 151 #[.pointer (some ⟨pb, 0, none⟩)] w fun z w' => z = WrongIs 15 t ∧ Ps w' pb tb tf tc ts k d ∧ But pb w w' := by
  have HH := Lib.hid (here_any pb tb tf tc k d ts t w h hk)
  have HN := Lib.hid (fun (w' : World) (h' : Ps w' pb tb tf tc ts k d) => number_no pb tb tf tc k d ts t w' h' hk hkd)
  have HP := Lib.hid h
  unfold Tok.val at HH
  unfold WrongIs at HN ⊢
  have hfl := fld2 (t.kind : Int) (t.word : Int) (t.line : Int) (t.col : Int) (str t.text)
  have hle : ¬ (2147483647 : Int) < (t.word : Int) := by omega
  clear h hk hkd
  go_enter Tryz.func151, Tryz.ntmps151
  go_wp2_with fail
  refine HH.out.mono ?_
  rintro z w1 ⟨rfl, hB1⟩
  have HP1 := Lib.hid (HP.out.later hB1)
  have HB1 := Lib.hid (But.of_below (g := pb) hB1)
  clear hB1
  go_wp2_with fail
  refine (HN.out w1 HP1.out).mono ?_
  rintro z w2 ⟨rfl, h1, h2⟩
  have HQ := Lib.hid (And.intro h1 (HB1.out.trans h2))
  clear h1 h2
  go_wp2_with fail
  exact ⟨rfl, rfl, HQ.out⟩
set_option maxRecDepth 100000 in
set_option maxHeartbeats 1600000 in
/-- done, called as a deferred call -/
theorem done_any (pb tb tf tc k d : Nat) (ts : List Tok) (u : FrameMode) (w : World) (h : Ps w pb tb tf tc ts k (d + 1)) (hd : d < 1000) :
    CallsD Tryz.prog 162 #[.pointer (some ⟨pb, 0, none⟩)] u w fun e u' w' => u' = u ∧ (e = .returned (.tuple #[]) ∧ Ps w' pb tb tf tc ts k d ∧ But pb w w') := by
  have c2 : w.cell? ⟨pb, 2, none⟩ = some (.int .i64 ((d : Int) + 1)) := by have := cell_blk h.pr (j := 2) rfl; rw [this]; congr 2
  have f2 : w.frozen? ⟨pb, 2, none⟩ = false := by simp [World.frozen?, h.pr]
  have hw : IntKind.i64.wrap ((d : Int) + 1 - 1) = (d : Int) := by simp [IntKind.wrap, IntKind.bits, IntKind.signed]; omega
  have hs : ((d : Int) + 1 - 1) = (d : Int) := by omega
  have HG := Lib.hid (h.deep d)
  clear h
  go_enter_d Tryz.func162, Tryz.ntmps162
  go_wp2_with fail
  go_end0
  first | exact ⟨rfl, HG.out⟩ | (simp only [hs]; exact ⟨rfl, HG.out⟩)
end Go.Proofs.YtchbnkepmeelkaaGreatDoor
/- Does an expression, does a statement begin; is it a name ahead of that text. -/
namespace Go.Proofs.YtchbnkepmeelkaaGreatDoor
open Go.RowKit

set_option maxRecDepth 100000 in
set_option maxHeartbeats 3200000 in
theorem isExpr_any (pb tb tf tc k d : Nat) (ts : List Tok) (t : Tok) (w : World) (h : Ps w pb tb tf tc ts k d) (hk : ts[k]? = some t) :
    Calls Tryz.prog 161 #[.pointer (some ⟨pb, 0, none⟩)] w fun e w' => e = .returned (.bool (beginsE t)) ∧ Below w.heap.size w w' := by
  have HH := Lib.hid (here_any pb tb tf tc k d ts t w h hk)
  have HI := Lib.hid (fun (s : List UInt8) (w' : World) (hB : Below w.heap.size w w') => is_any s pb tb tf tc k d ts t w' (h.later hB) hk)
  unfold Tok.val at HH
  have hfl := fld0 (t.kind : Int) (t.word : Int) (t.line : Int) (t.col : Int) (str t.text)
  have I1 := Lib.hid (HI.out [126])
  have I2 := Lib.hid (HI.out [45])
  have I3 := Lib.hid (HI.out [40])
  have I4 := Lib.hid (HI.out [112, 105, 99, 107])
  unfold beginsE
  have q1 : ((t.kind : Int) == 1) = decide (t.kind = 1) := by by_cases h : t.kind = 1 <;> simp [h]; omega
  have q3 : ((t.kind : Int) == 3) = decide (t.kind = 3) := by by_cases h : t.kind = 3 <;> simp [h]; omega
  generalize decide (t.kind = 1) = a1 at *
  generalize decide (t.kind = 3) = a3 at *
  generalize decide (t.text = [126]) = b1 at *
  generalize decide (t.text = [45]) = b2 at *
  generalize decide (t.text = [40]) = b3 at *
  generalize decide (t.text = [112, 105, 99, 107]) = b4 at *
  clear h hk HI
  go_enter Tryz.func161, Tryz.ntmps161
  go_wp2_with fail
  refine HH.out.mono ?_
  rintro z w1 ⟨rfl, hB1⟩
  have HB1 := Lib.hid hB1
  clear hB1 HH
  cases a1
  rotate_left
  · go_wp2_with fail
    go_ret
    exact ⟨rfl, HB1.out⟩
  cases a3
  rotate_left
  · go_wp2_with fail
    go_ret
    exact ⟨rfl, HB1.out⟩
  go_wp2_with fail
  refine (I1.out _ HB1.out).mono ?_
  rintro z w2 ⟨rfl, hB2⟩
  have HB2 := Lib.hid (HB1.out.trans (hB2.mono HB1.out.size))
  clear hB2 I1
  cases b1
  rotate_left
  · go_wp2_with fail
    go_ret
    exact ⟨rfl, HB2.out⟩
  go_wp2_with fail
  refine (I2.out _ HB2.out).mono ?_
  rintro z w3 ⟨rfl, hB3⟩
  have HB3 := Lib.hid (HB2.out.trans (hB3.mono HB2.out.size))
  clear hB3 I2
  cases b2
  rotate_left
  · go_wp2_with fail
    go_ret
    exact ⟨rfl, HB3.out⟩
  go_wp2_with fail
  refine (I3.out _ HB3.out).mono ?_
  rintro z w4 ⟨rfl, hB4⟩
  have HB4 := Lib.hid (HB3.out.trans (hB4.mono HB3.out.size))
  clear hB4 I3
  cases b3
  rotate_left
  · go_wp2_with fail
    go_ret
    exact ⟨rfl, HB4.out⟩
  go_wp2_with fail
  refine (I4.out _ HB4.out).mono ?_
  rintro z w5 ⟨rfl, hB5⟩
  have HB5 := Lib.hid (HB4.out.trans (hB5.mono HB4.out.size))
  clear hB5 I4
  go_wp2_with fail
  go_ret
  exact ⟨by simp, HB5.out⟩
end Go.Proofs.YtchbnkepmeelkaaGreatDoor
