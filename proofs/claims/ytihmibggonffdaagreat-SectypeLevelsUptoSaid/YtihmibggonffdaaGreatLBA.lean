/- LB8, LB9, LB1, LBA as one. -/
import Derived.Test.YtihmibggonffdaaGreatU1
import Derived.Test.YtihmibggonffdaaGreatTB
import Derived.Test.YtihmibggonffdaaGreatH2
import Derived.Test.YtihmibggonffdaaGreatD9
import Derived.Test.YtihmibggonffdaaGreatE5
import Derived.Test.YtihmibggonffdaaGreatLB7
import Derived.Test.YtihmibggonffdaaGreatTE
/- The level of an expression, caught. -/
namespace Go.Proofs.YtihmibggonffdaaGreat
open Go.RowKit

inductive L1End (r : Option Bool) (sb : Nat) (w : World) : Ending → World → Prop where
 | ok {t : Bool} {w' : World} (h : r = some t) (hs : w'.heap[sb]? = some (.cells #[.bool t] 4 (0, 0))) (hF : Fw (fun k => k = sb) w w') : L1End r sb w (.returned (.tuple #[])) w'
 | no {w' : World} (h : r = none) (hB : Below w.heap.size w w') : L1End r sb w (Pn 10) w'
set_option maxHeartbeats 3200000 in
theorem level1_any (b : Bas) (T : List (List UInt8)) (kb ab sb mb N : Nat) (v : Value) (w : World) (hV : BVal w N v b) (hk : ∃ p c q d, v = .agg #[.slice p b.words.length c, .slice q b.places.length d, .bool b.secret, .bool b.refused] ∧ w.heap[kb]? = some (.cells #[.slice p b.words.length c, .slice q b.places.length d, .bool b.secret, .bool b.refused] 93 (0, 0))) (hN : N ≤ w.heap.size) (hM : Mp w mb (mem T)) (ha : w.heap[ab]? = some (.cells #[.map (some mb)] 97 (0, 0))) (hs : w.heap[sb]? = some (.cells #[.bool false] 4 (0, 0))) :
   Calls Tryz.prog 40 #[.pointer (some ⟨kb, 0, none⟩), .pointer (some ⟨ab, 0, none⟩), .pointer (some ⟨sb, 0, none⟩)] w (L1End (b.lev T) sb w) := by
 have HL := Lib.hid (level_any b T kb mb N v w hV hk hN hM)
 have HS := Lib.hid hs
 have c1 : w.cell? ⟨ab, 0, none⟩ = some (.map (some mb)) := cell_blk ha rfl
 generalize b.lev T = r at HL
 clear hV hk hN hM ha hs
 go_enter Tryz.func40, Tryz.ntmps40
 go_wp2_with fail
 refine HL.out.mono ?_
 intro z w2 h2
 rcases h2 with ⟨hr, hB⟩ | ⟨hr, hB⟩
 · rename_i t
   have hs2 := (hB.block _ (lt_blk HS.out)).trans HS.out
   have z0 : w2.cell? ⟨sb, 0, none⟩ = some (.bool false) := cell_blk hs2 rfl
   have f0 : w2.frozen? ⟨sb, 0, none⟩ = false := by simp [World.frozen?, hs2]
   have HEnd := Lib.hid (show L1End r sb w (.returned (.tuple #[])) (w2.setCell ⟨sb, 0, none⟩ (.bool t)) from .ok hr (by rw [setc hs2]; rfl) ((Fw.of_below hB).trans (Fw.of_but ((But.refl sb w2).set 0 _))))
   clear hr hB hs2 HL c1
   go_wp2_with fail
   go_end0
   exact HEnd.out
 · have HEnd := Lib.hid (show L1End r sb w (Pn 10) w2 from .no hr hB)
   clear hr hB HL c1
   unfold Pn at HEnd ⊢
   go_wp2_with fail
   exact ⟨rfl, HEnd.out⟩
inductive LcEnd (r : Option Bool) (sb : Nat) (w : World) : Ending → World → Prop where
 | ok {t : Bool} {w' : World} (h : r = some t) (hs : w'.heap[sb]? = some (.cells #[.bool t] 4 (0, 0))) (hF : Fw (fun k => k = sb) w w') : LcEnd r sb w (.returned (.int .i64 0)) w'
 | no {w' : World} (h : r = none) (hB : Below w.heap.size w w') : LcEnd r sb w (.returned (.int .i64 10)) w'
set_option maxHeartbeats 3200000 in
theorem caughtLv_any (r : Option Bool) (kb ab sb : Nat) (w : World) (hsb : sb < w.heap.size) (h : ∀ W, Below w.heap.size w W → Calls Tryz.prog 40 #[.pointer (some ⟨kb, 0, none⟩), .pointer (some ⟨ab, 0, none⟩), .pointer (some ⟨sb, 0, none⟩)] W (L1End r sb W)) :
   Calls Tryz.prog 26 #[.func (.func 40) #[] #[.pointer (some ⟨kb, 0, none⟩), .pointer (some ⟨ab, 0, none⟩), .pointer (some ⟨sb, 0, none⟩)]] w (LcEnd r sb w) := by
 have hmf : ∀ (fn : Fn) (first cap : Array Value) (w : World), (Instr.makeFunc fn first cap).run Tryz.prog w = .ok (.func fn first cap) w := fun _ _ _ _ => rfl
 obtain ⟨W0, hW0, k0, hB0, hz0⟩ := one_alloc w (.cells #[.int .i64 0] 29)
 have HCl := Lib.hid (h W0 hB0)
 have HB0 := Lib.hid (show Below w.heap.size w W0 ∧ w.heap.size < W0.heap.size from ⟨hB0, by omega⟩)
 have HK := Lib.hid k0
 have HW0 := Lib.hid hW0
 clear hW0 k0 hB0 hz0 h
 go_enter_defers Tryz.func26, Tryz.ntmps26
 go_wp2_with fail
 rw [HW0.out]
 refine HCl.out.mono ?_
 intro z w1 hc
 rcases hc with ⟨r1, hs1, hF1⟩ | ⟨r1, hB1⟩
 · have k1 := (hF1.block _ HB0.out.2 (fun e => by omega)).trans HK.out
   rename_i t
   have hF01 : Fw (fun k => k = sb) w w1 := (Fw.of_below HB0.out.1).trans hF1
   have hFS : Fw (fun k => k = w.heap.size) w1 (w1.setCell ⟨w.heap.size, 0, none⟩ (.int .i64 0)) := ⟨rfl, rfl, rfl, by simp [World.setCell], fun k _ hn => Below.heap_setCell _ ⟨w.heap.size, 0, none⟩ _ _ hn⟩
   have HEnd := Lib.hid (show LcEnd r sb w (.returned (.int .i64 0)) (w1.setCell ⟨w.heap.size, 0, none⟩ (.int .i64 0)) from .ok r1 ((hFS.block sb (lt_blk hs1) (by omega)).trans hs1) (hF01.new hFS (fun j e => .inr (by omega))))
   have c0 : w1.cell? ⟨w.heap.size, 0, none⟩ = some (.int .i64 0) := cell_blk k1 rfl
   have f0 : w1.frozen? ⟨w.heap.size, 0, none⟩ = false := by simp [World.frozen?, k1]
   have hF := heap_setCell_one k1 (.int .i64 0)
   have HF := Lib.hid hF
   clear k1 hF hF1 r1 hs1 hF01 hFS
   go_wp2_with fail
   refine leaves_cons (f := 58) (args := #[.pointer (some ⟨w.heap.size, 0, none⟩)]) (by simp) (by simp [go_sem]) ?_
   refine (sidle_any _ _).mono ?_
   rintro e u w9 ⟨rfl, rfl, rfl⟩
   have y0 := cell_blk HF.out (j := 0) rfl
   refine ⟨.int .i64 0, ?_, HEnd.out⟩
   simp [results, Tryz.results26, go_sem, y0]
 · have k1 := (hB1.block _ HB0.out.2).trans HK.out
   have HBB := Lib.hid (HB0.out.1.trans (hB1.mono (Nat.le_of_lt HB0.out.2)))
   have HK1 := Lib.hid k1
   have HR1 := Lib.hid r1
   clear k1 hB1 r1
   unfold Pn
   go_wp2_with fail
   refine leaves_cons (f := 58) (args := #[.pointer (some ⟨w.heap.size, 0, none⟩)]) (by simp) (by simp [go_sem]) ?_
   refine (scaught1_any w.heap.size (10 : Int) [] w1 HK1.out).mono ?_
   rintro e u w9 ⟨rfl, rfl, rfl⟩
   have hF := heap_setCell_one HK1.out (.int .i64 (10 : Int))
   have y0 := cell_blk hF (j := 0) rfl
   have H2 := HBB.out.setCell (p := ⟨w.heap.size, 0, none⟩) (Nat.le_refl _) (.int .i64 (10 : Int))
   show Leaves _ _ _ _ [] (settle _) _
   refine ⟨.int .i64 (10 : Int), ?_, .no HR1.out H2⟩
   simp [results, Tryz.results26, go_sem, y0]
/- slices.Concat of two lists of texts. -/
open Go.RowKit

set_option maxRecDepth 100000 in
set_option maxHeartbeats 1600000 in
theorem growS_any (n : Nat) (hn : n ≤ 1000000) (w : World) : Calls Tryz.prog 74 #[.slice none 0 0, .int .i64 (n : Int)] w fun z w' => ∃ v, z = .returned v ∧ w'.ownsRow w.heap.size 9 1 v 0 [] ∧ Below w.heap.size w w' := by
 obtain ⟨i0, hi, hz0, hz1, hz2⟩ := info_parts infoStr
 by_cases h0 : n = 0
 · subst h0
   go_enter Tryz.func74, Tryz.ntmps74
   go_wp2_with fail
   go_ret
   exact ⟨_, rfl, ⟨by simp, .inl ⟨rfl, rfl⟩⟩, Below.refl _ _⟩
 · have happ := Lib.run_append_nil_zeros (P := Tryz.prog) w 42 3 42 9 i0 _ .i64 .i64 Tryz.underlying42 Tryz.underlying3 hi hz0 n (by omega) (by omega) (by omega) (by rw [hz2]; omega)
   have hge := grownCap_ge w n 0 9
   have hle := grownCap_le_maxLen w n 0 9 (by unfold maxLen; omega)
   generalize grownCap w n 0 9 = cap2 at happ hge hle
   generalize hZ : (Builtin.zeroCells (Value.string ⟨#[]⟩).cells n ++ Builtin.zeroCells (Value.string ⟨#[]⟩).cells (cap2 - n)) = Z at happ
   have hZs : Z.size = cap2 * 1 := by rw [← hZ]; simp [size_zeroCells, Value.cells]; omega
   clear hZ
   have h1 : ¬ (n : Int) < 0 := by omega
   have h2 : (0 : Int) < (n : Int) := by omega
   have HR := Lib.hid (show (w.drew.alloc (.cells Z 9)).ownsRow w.heap.size 9 1 (.slice (some ⟨w.heap.size, 0, none⟩) 0 cap2) 0 [] ∧ Below w.heap.size w (w.drew.alloc (.cells Z 9)) from
     ⟨⟨by simp, .inr ⟨w.heap.size, cap2, Z, rfl, Nat.le_refl _, heap_alloc_new w.drew _, by omega, hle, hZs, by simp⟩⟩, (Below.refl _ w).drew.alloc (Nat.le_refl _) _⟩)
   clear hZs h0
   go_enter Tryz.func74, Tryz.ntmps74
   go_wp2_with (at_builtin; refine Lib.wpList_append_run _ rfl _ _ _ _ rfl _ _ rfl rfl _ _ happ ?_)
   go_ret
   exact ⟨_, rfl, HR.out⟩
set_option maxRecDepth 100000 in
set_option maxHeartbeats 6400000 in
theorem concatS_any (ps vs : List (List UInt8)) (pp pv : Option Addr) (cp cv g N : Nat) (w : World) (hg : w.heap[g]? = some (.cells #[.slice pp ps.length cp, .slice pv vs.length cv] 42 (0, 0))) (h1 : RowIn N (StrAt w) 1 ps pp) (h2 : RowIn N (StrAt w) 1 vs pv) (hN : N ≤ w.heap.size) (hs : ps.length + vs.length ≤ 100000) :
   Calls Tryz.prog 38 #[.slice (some ⟨g, 0, none⟩) 2 2] w fun z w' => ∃ p c, z = .returned (.slice p (ps ++ vs).length c) ∧ RowIn w'.heap.size (StrAt w') 1 (ps ++ vs) p ∧ Below w.heap.size w w' := by
 obtain ⟨i0, hi, hz0, hz1, hz2⟩ := info_parts infoStr
 have c0 : w.cell? ⟨g, 0, none⟩ = some (.slice pp ps.length cp) := cell_blk hg rfl
 have c1 : w.cell? ⟨g, 1, none⟩ = some (.slice pv vs.length cv) := cell_blk hg rfl
 have hw1 : IntKind.i64.wrap (ps.length : Int) = (ps.length : Int) := by simp [IntKind.wrap, IntKind.bits, IntKind.signed]; omega
 have hw2 : IntKind.i64.wrap ((ps.length : Int) + (vs.length : Int)) = (ps.length : Int) + (vs.length : Int) := by simp [IntKind.wrap, IntKind.bits, IntKind.signed]; omega
 have hn0 : ¬ (ps.length : Int) < 0 := by omega
 have hn1 : ¬ (ps.length : Int) + (vs.length : Int) < 0 := by omega
 have HG := Lib.hid hg
 have H1 := Lib.hid h1
 have H2 := Lib.hid h2
 have HGr := Lib.hid (growS_any (ps.length + vs.length) (by omega) w)
 rw [show ((ps.length + vs.length : Nat) : Int) = (ps.length : Int) + (vs.length : Int) by omega] at HGr
 clear hg h1 h2
 go_enter Tryz.func38, Tryz.ntmps38
 go_wp2_with fail
 go_loopw [3, 11] (fun s i wr => ∃ k : Nat, i = .int .i64 k ∧ k ≤ 2 ∧ s = .int .i64 (if k = 0 then 0 else if k = 1 then (ps.length : Int) else (ps.length : Int) + (vs.length : Int)) ∧ wr = w) (fun _ i _ => 2 - (intOf i).toNat)
 case atStart => exact ⟨0, rfl, by omega, rfl, rfl⟩
 case round =>
   obtain ⟨k, rfl, hk, rfl, rfl⟩ := hrel
   rcases (show k = 0 ∨ k = 1 ∨ k = 2 by omega) with rfl | rfl | rfl
   · go_wp2_with fail
     go_roundw
     case rel => exact ⟨1, by go_num, by omega, rfl, trivial⟩
     case measure => simp [intOf]
   · go_wp2_with fail
     go_roundw
     case rel => exact ⟨2, by go_num, by omega, rfl, trivial⟩
     case measure => simp [intOf]
   · go_wp2_with fail
     refine HGr.out.mono ?_
     rintro z w1 ⟨v, rfl, hv, hB⟩
     have HV := Lib.hid hv
     have HB := Lib.hid hB
     clear hv hB c0 c1
     go_wp2_with fail
     obtain ⟨wo, rfl⟩ : ∃ wo : World, wo = wr := ⟨_, rfl⟩
     go_loopw [6, 27] (fun s i wz => ∃ k : Nat, i = .int .i64 k ∧ k ≤ 2 ∧ Hid (wz.ownsRow wo.heap.size 9 1 s (if k = 0 then 0 else if k = 1 then ps.length else ps.length + vs.length) (if k = 0 then [] else if k = 1 then strCells ps else strCells ps ++ strCells vs)) ∧ Hid (Below wo.heap.size wo wz)) (fun _ i _ => 2 - (intOf i).toNat)
     case atStart => exact ⟨0, rfl, by omega, HV, HB⟩
     case round =>
       obtain ⟨k, rfl, hk, hO, hB⟩ := hrel
       have c0 : wr.cell? ⟨g, 0, none⟩ = some (.slice pp ps.length cp) := cell_blk ((hB.out.block _ (lt_blk HG.out)).trans HG.out) rfl
       have c1 : wr.cell? ⟨g, 1, none⟩ = some (.slice pv vs.length cv) := cell_blk ((hB.out.block _ (lt_blk HG.out)).trans HG.out) rfl
       have HS1 := Lib.hid (str_src (H1.out.imp (Nat.le_refl _) (StrAt.later (hB.out.mono hN))))
       have HS2 := Lib.hid (str_src (H2.out.imp (Nat.le_refl _) (StrAt.later (hB.out.mono hN))))
       rcases (show k = 0 ∨ k = 1 ∨ k = 2 by omega) with rfl | rfl | rfl
       · go_wp2_with (at_builtin; refine wpList_append_src rfl _ _ 42 rfl wo.heap.size 9 i0 _ 1 16 Tryz.underlying42 hi hz0 hz1 hz2 rfl (by decide) _ 0 [] rfl hO.out _ _ _ (strCells ps) rfl HS1.out (strc_one ps) (by unfold maxLen; omega) (by omega) hB.out.size ?_; intro v' w2 hown hgrow)
         have HX := Lib.hid (And.intro hown (hB.out.grown hgrow hB.out.size (own_blk hO.out)))
         clear hown hgrow c0 c1
         go_wp2_with fail
         go_roundw
         case rel => exact ⟨1, by go_num, by omega, Lib.hid (by simpa using HX.out.1), Lib.hid HX.out.2⟩
         case measure => simp [intOf]
       · have hO1 : wr.ownsRow wo.heap.size 9 1 u6 ps.length (strCells ps) := hO.out
         go_wp2_with (at_builtin; refine wpList_append_src rfl _ _ 42 rfl wo.heap.size 9 i0 _ 1 16 Tryz.underlying42 hi hz0 hz1 hz2 rfl (by decide) _ ps.length (strCells ps) rfl hO1 _ _ _ (strCells vs) rfl HS2.out (strc_one vs) (by unfold maxLen; omega) (by omega) hB.out.size ?_; intro v' w2 hown hgrow)
         have HX := Lib.hid (And.intro hown (hB.out.grown hgrow hB.out.size (own_blk hO.out)))
         clear hown hgrow c0 c1
         go_wp2_with fail
         go_roundw
         case rel => exact ⟨2, by go_num, by omega, Lib.hid (by simpa using HX.out.1), Lib.hid HX.out.2⟩
         case measure => simp [intOf]
       · have hO2 : wr.ownsRow wo.heap.size 9 1 u6 (ps ++ vs).length (strCells (ps ++ vs)) := by have := hO.out; simpa [strc_app] using this
         obtain ⟨p, c, rfl, hrow⟩ := own_strs hO2 (by rw [List.length_append]; omega)
         have HR := Lib.hid hrow
         clear hO2 hrow hO c0 c1
         go_wp2_with fail
         go_ret
         exact ⟨p, c, rfl, HR.out, hB.out⟩
/- A map from texts to yes and no. -/
open Go.RowKit

def EsB : List MapEntry → List (List UInt8 × Bool) → Prop
 | [], [] => True
 | e :: es, x :: T => e.key = .string (str x.1) ∧ e.val = .bool x.2 ∧ EsB es T
 | _, _ => False
def gb : List (List UInt8 × Bool) → List UInt8 → Option Bool
 | [], _ => none
 | x :: T, s => if s = x.1 then some x.2 else gb T s
def pb : List (List UInt8 × Bool) → List UInt8 → Bool → List (List UInt8 × Bool)
 | [], s, t => [(s, t)]
 | x :: T, s, t => if s = x.1 then (x.1, t) :: T else x :: pb T s t
theorem gb_pb (T : List (List UInt8 × Bool)) (s s' : List UInt8) (t : Bool) : gb (pb T s t) s' = if s' = s then some t else gb T s' := by
 induction T with
 | nil => by_cases h : s' = s <;> simp [pb, gb, h]
 | cons x T ih =>
   by_cases h : s = x.1
   · by_cases h' : s' = s
     · subst h'; simp [pb, gb, h]
     · have h2 : ¬ s' = x.1 := fun e => h' (e.trans h.symm)
       simp [pb, gb, h, h2]
   · by_cases h' : s' = x.1
     · have h2 : ¬ x.1 = s := fun e => h e.symm
       simp [pb, gb, h, h', h2]
     · simp [pb, gb, h, h', ih]
theorem find_eb : ∀ (es : List MapEntry) (T : List (List UInt8 × Bool)) (s : List UInt8) (j : Nat), EsB es T →
   (gb T s = none ∧ (∀ t, pb T s t = T ++ [(s, t)]) ∧ Instr.findNow .string (.string (str s)) es j = some none) ∨
   (∃ i b, gb T s = some b ∧ Instr.findNow .string (.string (str s)) es j = some (some (j + i, .bool b)) ∧ (es[i]?).map (·.key) = some (.string (str s)) ∧ ∀ t, EsB (es.modify i fun e => { e with key := .string (str s), val := .bool t }) (pb T s t))
 | [], [], s, j, _ => .inl ⟨rfl, fun _ => rfl, rfl⟩
 | [], _ :: _, _, _, h => by simp [EsB] at h
 | _ :: _, [], _, _, h => by simp [EsB] at h
 | e :: es, x :: T, s, j, h => by
   obtain ⟨hk, hv, hT⟩ := h
   by_cases hs : s = x.1
   · right
     refine ⟨0, x.2, by simp [gb, hs], ?_, ?_, ?_⟩
     · simp [Instr.findNow, Instr.sameNow, hk, hv, hs, beq_str]
     · simp [hk, hs]
     · intro t
       simp [List.modify, pb, hs, EsB, hT]
   · have hb : ((str s) == (str x.1)) = false := by rw [beq_str]; simpa using hs
     rcases find_eb es T s (j + 1) hT with ⟨h1, h2, h3⟩ | ⟨i, b, h0, h1, h2, h3⟩
     · left
       refine ⟨by simp [gb, hs, h1], fun t => by simp [pb, hs, h2], ?_⟩
       simp [Instr.findNow, Instr.sameNow, hk, hb, h3]
     · right
       refine ⟨i + 1, b, by simp [gb, hs, h0], ?_, by simpa using h2, ?_⟩
       · simp [Instr.findNow, Instr.sameNow, hk, hb, h1]; omega
       · intro t
         simp only [List.modify_succ_cons, pb, hs, if_false]
         exact ⟨hk, hv, h3 t⟩
theorem EsB.push : ∀ (es : List MapEntry) (T : List (List UInt8 × Bool)) (s : List UInt8) (t : Bool) (n : Nat), EsB es T → EsB (es ++ [{ key := .string (str s), val := .bool t, born := n }]) (T ++ [(s, t)])
 | [], [], _, _, _, _ => ⟨rfl, rfl, trivial⟩
 | [], _ :: _, _, _, _, h => by simp [EsB] at h
 | _ :: _, [], _, _, _, h => by simp [EsB] at h
 | e :: es, x :: T, s, t, n, h => ⟨h.1, h.2.1, EsB.push es T s t n h.2.2⟩
def Bm (w : World) (b : Nat) (f : List UInt8 → Option Bool) : Prop := ∃ es clock T, w.heap[b]? = some (.map es clock) ∧ EsB es.toList T ∧ ∀ s, gb T s = f s
theorem Bm.of_block {w w' : World} {b : Nat} {f : List UInt8 → Option Bool} (h : Bm w b f) (e : w'.heap[b]? = w.heap[b]?) : Bm w' b f := by
 obtain ⟨es, clock, T, h1, h2⟩ := h
 exact ⟨es, clock, T, e.trans h1, h2⟩
theorem Bm.lt {w : World} {b : Nat} {f : List UInt8 → Option Bool} (h : Bm w b f) : b < w.heap.size := by
 obtain ⟨es, clock, T, h1, h2⟩ := h
 exact (Array.getElem?_eq_some_iff.1 h1).1
theorem Bm.later {w w' : World} {b : Nat} {f : List UInt8 → Option Bool} (h : Bm w b f) (hB : Below w.heap.size w w') : Bm w' b f := h.of_block (hB.block b h.lt)
theorem Bm.new (w : World) : Bm (w.alloc (.map #[] 0)) w.heap.size fun _ => none := ⟨#[], 0, [], heap_alloc_new _ _, trivial, fun _ => rfl⟩
section
variable {P : Program} {t k e : TypeId}
theorem Bm.look {w : World} {b : Nat} {f : List UInt8 → Option Bool} (h : Bm w b f) (ht : P.underlying t = some (.map k e)) (hk : P.underlying k = some .string) (hz : ∀ w, (zeroValue e).run P w = .ok (.bool false) w) (s : List UInt8) :
   (Instr.lookup t (.map (some b)) (.string (str s)) true).run P w = .ok (.tuple #[.bool ((f s).getD false), .bool (f s).isSome]) w := by
 obtain ⟨es, clock, T, hb, hE, hf⟩ := h
 have hck := MapKept.run_checkKey hk (k := .string (str s)) (w := w) (show MapKept.IsKey .string (.string (str s)) from trivial)
 rw [← hf]
 rcases find_eb es.toList T s 0 hE with ⟨h1, h2, h3⟩ | ⟨i, b', h0, h1, h2, h3⟩
 · have hf := MapKept.run_findKey (P := P) (w := w) hk h3
   rw [h1]
   simp [Instr.lookup, run_underlying ht, MapKept.run_getObj_map hb, hck, hf, hz, Result.andThen]
 · have hf := MapKept.run_findKey (P := P) (w := w) hk h1
   rw [h0]
   simp [Instr.lookup, run_underlying ht, MapKept.run_getObj_map hb, hck, hf, Result.andThen]
def putB (f : List UInt8 → Option Bool) (s : List UInt8) (v : Bool) : List UInt8 → Option Bool := fun s' => if s' = s then some v else f s'
theorem Bm.put {w : World} {b : Nat} {f : List UInt8 → Option Bool} (h : Bm w b f) (ht : P.underlying t = some (.map k e)) (hk : P.underlying k = some .string) (s : List UInt8) (v : Bool) :
   ∃ w', (Instr.mapUpdate t (.map (some b)) (.string (str s)) (.bool v)).run P w = .ok () w' ∧ Bm w' b (putB f s v) ∧ But b w w' := by
 obtain ⟨es, clock, T, hb, hE, hf⟩ := h
 have hck := MapKept.run_checkKey hk (k := .string (str s)) (w := w) (show MapKept.IsKey .string (.string (str s)) from trivial)
 have hlt : b < w.heap.size := (Array.getElem?_eq_some_iff.1 hb).1
 have key : ∀ es' clock' T', EsB es'.toList T' → T' = pb T s v → (∃ w', w' = { w with heap := w.heap.setIfInBounds b (.map es' clock') } ∧ Bm w' b (putB f s v) ∧ But b w w') := by
   intro es' clock' T' h1 h2
   exact ⟨_, rfl, ⟨es', clock', T', by simp [hlt], h1, fun s' => by rw [h2, gb_pb, hf]; rfl⟩, ⟨rfl, rfl, rfl, by simp, fun j _ hj => by simp [Ne.symm hj]⟩⟩
 rcases find_eb es.toList T s 0 hE with ⟨h1, h2, h3⟩ | ⟨i, b', h0, h1, h2, h3⟩
 · have hfk := MapKept.run_findKey (P := P) (w := w) hk h3
   obtain ⟨w', rfl, r⟩ := key (es.push { key := .string (str s), val := .bool v, born := clock }) (clock + 1) _ (by rw [Array.toList_push]; exact EsB.push _ _ s v clock hE) (h2 v).symm
   refine ⟨_, ?_, r⟩
   simp [Instr.mapUpdate, run_underlying ht, MapKept.run_getObj_map hb, hck, hfk, MapKept.run_setObj_map _ hb, Result.andThen]
 · have hfk := MapKept.run_findKey (P := P) (w := w) hk h1
   rw [Nat.zero_add] at hfk
   have hky : (es[i]?).map (·.key) = some (.string (str s)) := by rw [← Array.getElem?_toList]; exact h2
   have hst := MapKept.run_keyThatStays (P := P) (w := w) (d := .string) (k := .string (str s)) (show MapKept.IsKey .string (.string (str s)) from trivial)
   obtain ⟨w', rfl, r⟩ := key (es.modify i fun e => { e with key := .string (str s), val := .bool v }) clock _ (by rw [Array.toList_modify]; exact h3 v) rfl
   refine ⟨_, ?_, r⟩
   simp [Instr.mapUpdate, run_underlying ht, MapKept.run_getObj_map hb, hck, hfk, hky, hst, MapKept.run_setObj_map _ hb, Result.andThen]
end
/- The program's Level. -/
open Go.RowKit Go.ChangeMaps

def setsT (G : List UInt8 → Bool) (l : List (List UInt8)) : List (List UInt8) := l.foldl (fun T s => setT T s (G s)) []
theorem setsT_snoc (G : List UInt8 → Bool) (l : List (List UInt8)) (s : List UInt8) : setsT G (l ++ [s]) = setT (setsT G l) s (G s) := by unfold setsT; rw [List.foldl_append]; rfl
theorem mem_sets (G : List UInt8 → Bool) (z : List UInt8) : ∀ (l : List (List UInt8)) (T : List (List UInt8)), mem (l.foldl (fun T s => setT T s (G s)) T) z = if l.any (fun y => y == z) then G z else mem T z
 | [], T => rfl
 | s :: l, T => by
   rw [List.foldl_cons, mem_sets G z l, mem_set, List.any_cons]
   unfold withT
   by_cases h : z = s
   · subst h; simp
   · have h2 : (s == z) = false := by simp; exact fun e => h e.symm
     rw [if_neg h, h2, Bool.false_or]
def lvR (x : Prg) (fn : Fnc) (e : Ex) (F : List UInt8 → Option Bool) : Bool × Nat :=
 if e.chk x fn 1 ≠ 0 then (false, e.chk x fn 1) else if e.any2 (fun s => (F s).isNone) then (false, 2) else if e.bd x fn (fun s => (F s).getD false) then (false, 10) else (e.sl x fn (fun s => (F s).getD false), 0)
theorem lv_sets {x : Prg} {fn : Fnc} {e : Ex} {deep : Nat} (G : List UInt8 → Bool) (h : e.chk x fn deep = 0) : e.lev x fn (setsT G ((e.bas x fn).words ++ (e.bas x fn).places)) = if e.bd x fn G then none else some (e.sl x fn G) := by
 rw [lev_doc _ h]
 have hq : e.any2 (fun s => mem (setsT G ((e.bas x fn).words ++ (e.bas x fn).places)) s != G s) = false := by
   rw [← has_any2 _ h]
   unfold Bas.has
   rw [← List.any_append, List.any_eq_false]
   intro s hs
   have : mem (setsT G ((e.bas x fn).words ++ (e.bas x fn).places)) s = G s := by
     unfold setsT
     rw [mem_sets, if_pos (List.any_eq_true.2 ⟨s, hs, by simp⟩)]
   rw [this]; simp
 obtain ⟨h1, h2⟩ := Ex.sl_congr e hq
 rw [h1, h2]
theorem SRow.row {w : World} {p : Option Addr} {c : Nat} {l : List (List UInt8)} (h : SRow w 0 (.slice p l.length c) l) (hl : l.length ≤ 140737488355328) : RowIn w.heap.size (StrAt w) 1 l p := by
 obtain ⟨p', c', e, hr⟩ := own_strs h hl
 cases e
 exact hr
theorem zeroB (w : World) : (zeroValue 4).run Tryz.prog w = .ok (.bool false) w := by kernel_rfl
set_option maxRecDepth 100000 in
set_option maxHeartbeats 12800000 in
theorem level_fun (x : Prg) (s : PrgP) (i : Nat) (fn : Fnc) (e : Ex) (pe : Option Addr) (ce mb N : Nat) (F : List UInt8 → Option Bool) (w : World) (h : x.Ok w N s.p s.q) (hN : N ≤ w.heap.size) (hi : x.fns[i]? = some fn) (he : e.Ok w N pe) (hc : x.regs.length ≤ s.c) (hd : x.fns.length ≤ s.d) (hs : e.size ≤ 3000) (hm : mayR x = 0) (hF : Bm w mb F) :
   Calls Tryz.prog 11 #[x.v s, .int .i64 (i : Int), e.val pe ce, .map (some mb)] w fun z w' => z = .returned (.tuple #[.bool (lvR x fn e F).1, .int .i64 ((lvR x fn e F).2 : Int)]) ∧ Below w.heap.size w w' := by
 obtain ⟨p, q, c, d⟩ := s
 obtain ⟨w2, hw2, k0, k1, hB2, hz2⟩ := two_alloc w (.cells #[.slice p x.regs.length c, .slice q x.fns.length d] 25) (.cells #[.int .i64 e.op, .int .u64 (e.word : Int), .string (str e.name), .slice pe e.args.len ce] 40)
 have hilt : i < x.fns.length := (List.getElem?_eq_some_iff.1 hi).1
 have hmf : x.fns.length ≤ 140737488355328 := h.2.1
 have HX := Lib.hid (fun (W : World) (hW : Below w.heap.size w W) => h.later (hW.mono hN) (Nat.le_refl N))
 have HEo := Lib.hid (fun (W : World) (hW : Below w.heap.size w W) => he.later (hW.mono hN) (Nat.le_refl N))
 have HB2 := Lib.hid hB2
 have HU := Lib.hid (fun (W : World) (hW : Below w2.heap.size w2 W) => show Below w.heap.size w W from hB2.trans (hW.mono hB2.size))
 have HP := Lib.hid (fun (W : World) (hW : Below w2.heap.size w2 W) => show W.cell? ⟨w.heap.size, 0, none⟩ = some (.slice p x.regs.length c) ∧ W.cell? ⟨w.heap.size, 1, none⟩ = some (.slice q x.fns.length d) ∧ W.cell? ⟨w.heap.size + 1, 0, none⟩ = some (.int .i64 e.op) ∧ W.cell? ⟨w.heap.size + 1, 1, none⟩ = some (.int .u64 (e.word : Int)) ∧ W.cell? ⟨w.heap.size + 1, 2, none⟩ = some (.string (str e.name)) ∧ W.cell? ⟨w.heap.size + 1, 3, none⟩ = some (.slice pe e.args.len ce) from
   have a0 := (hW.block _ (lt_blk k0)).trans k0
   have a1 := (hW.block _ (lt_blk k1)).trans k1
   ⟨cell_blk a0 rfl, cell_blk a0 rfl, cell_blk a1 rfl, cell_blk a1 rfl, cell_blk a1 rfl, cell_blk a1 rfl⟩)
 have HK := Lib.hid (And.intro k0 k1)
 have HZ := Lib.hid hz2
 have HF := Lib.hid hF
 have HA := Lib.hid (And.intro hi (And.intro hN (And.intro hc (And.intro hd (And.intro hs he.2)))))
 have HMy := Lib.hid (may_any x ⟨p, q, c, d⟩ N w2 (HX.out _ hB2) (by omega) hc hd)
 have HMa := Lib.hid (may_alone hm hi hs)
 rw [hm] at HMy
 unfold Prg.v at HMy ⊢
 unfold Ex.val
 dsimp only at HMy ⊢
 have HW2 := Lib.hid hw2
 obtain ⟨p0, p1, p2, p3, p4, p5⟩ := HP.out w2 (Below.refl _ _)
 obtain ⟨V, hV⟩ : ∃ V, V = lvR x fn e F := ⟨_, rfl⟩
 have HV := Lib.hid hV
 rw [← hV]
 clear h hN hi he hc hd hs hm hF hw2 k0 k1 hB2 hz2 hV
 go_enter Tryz.func11, Tryz.ntmps11
 go_wp2_with fail
 erw [HW2.out]
 refine HMy.out.mono ?_
 rintro z w3 ⟨rfl, hB3⟩
 have HB3 := Lib.hid hB3
 clear hB3 p0 p1 p2 p3 p4 p5 HMy HW2
 obtain ⟨p0, p1, p2, p3, p4, p5⟩ := HP.out w3 HB3.out
 have hi0 : ¬ (i : Int) < 0 := by omega
 have hi1 : ¬ (x.fns.length : Int) ≤ (i : Int) := by omega
 have HSt := Lib.hid (mayStand_any x ⟨p, q, c, d⟩ i fn e pe ce N w3 (HX.out _ (HU.out _ HB3.out)) (Nat.le_trans HA.out.2.1 (HU.out _ HB3.out).size) HA.out.1 (HEo.out _ (HU.out _ HB3.out)) HA.out.2.2.1)
 rw [HMa.out] at HSt
 unfold Prg.v Ex.val at HSt
 dsimp only at HSt
 obtain ⟨C, hC⟩ : ∃ C, C = e.chk x fn 1 := ⟨_, rfl⟩
 rw [← hC] at HSt
 have HC := Lib.hid hC
 clear hC
 go_wp2_with fail
 refine HSt.out.mono ?_
 rintro z w4 ⟨rfl, hB4⟩
 have HB4 := Lib.hid (HB3.out.trans (hB4.mono HB3.out.size))
 clear hB4 p0 p1 p2 p3 p4 p5 HSt hi0 hi1
 by_cases hC0 : C = 0
 rotate_left
 · have hne : ((C : Int) != 0) = true := by simp; omega
   have HVe := Lib.hid (show V = (false, C) by rw [HV.out, lvR, if_pos (by rw [← HC.out]; exact hC0), HC.out])
   have HY := Lib.hid (HU.out _ HB4.out)
   go_wp2_with fail
   go_ret2
   exact ⟨by (rw [HVe.out]) <;> rfl, HY.out⟩
 subst hC0
 have HCk := Lib.hid (show e.chk x fn 1 = 0 from HC.out.symm)
 have hN4 : w2.heap.size ≤ w4.heap.size := HB4.out.size
 have HBs := Lib.hid (basisOf_any x ⟨p, q, c, d⟩ i fn e 1 w.heap.size (w.heap.size + 1) 0 w4.heap.size w4 ⟨(HB4.out.block _ (lt_blk HK.out.1)).trans HK.out.1, (HX.out _ (HU.out _ HB4.out)).later (Below.refl _ _) (Nat.le_trans HA.out.2.1 (HU.out _ HB4.out).size)⟩ (Nat.le_refl _) HA.out.1 HCk.out (ex_at (p := pe) (k := ce) ((HB4.out.block _ (lt_blk HK.out.2)).trans HK.out.2) 0 rfl HA.out.2.2.2.2.2 ((HEo.out _ (HU.out _ HB4.out)).1.later (Below.refl _ _) (Nat.le_trans HA.out.2.1 (HU.out _ HB4.out).size))) (by have := HZ.out; omega) (by have := HA.out.2.2.2.2.1; omega))
 have HWt := Lib.hid (show (e.bas x fn).words.length + (e.bas x fn).places.length ≤ 3000 by have h1 := Ex.wit_wt x fn e bas0; have h2 := HA.out.2.2.2.2.1; show (e.bas x fn).wt ≤ 3000; unfold Ex.bas; have h3 : bas0.wt = 0 := rfl; omega)
 have HLv := Lib.hid (fun G => lv_sets (x := x) (fn := fn) (e := e) G HCk.out)
 have HHs := Lib.hid (fun qq => has_any2 (x := x) (fn := fn) (e := e) qq HCk.out)
 obtain ⟨B, hBs⟩ : ∃ B, B = e.bas x fn := ⟨_, rfl⟩
 have HLe := Lib.hid (show ∀ T, e.lev x fn T = B.lev T from fun T => by rw [hBs]; rfl)
 rw [← hBs] at HBs HWt HLv HHs
 clear hN4 hBs
 go_wp2_with fail
 refine HBs.out.mono ?_
 rintro z w5 ⟨pw, cw, pq, cq, rfl, hr1, hr2, hB5⟩
 have HB5 := Lib.hid (HB4.out.trans (hB5.mono HB4.out.size))
 have hr1 := hr1.row (by have := HWt.out; omega)
 have hr2 := hr2.row (by have := HWt.out; omega)
 have hmm := @run_makeMap Tryz.prog
 obtain ⟨w7, hw7, j0, j1, hB7, hz7⟩ := two_alloc w5 (.cells #[.slice pw B.words.length cw, .slice pq B.places.length cq, .bool B.secret, .bool B.refused] 93) (.map #[] 0)
 obtain ⟨w9, hw9, j2, j3, hB9, hz9⟩ := two_alloc w7 (.cells #[.map (some (w5.heap.size + 1))] 97) (.cells #[.slice pw B.words.length cw, .slice pq B.places.length cq] 42)
 have hB79 : Below w5.heap.size w5 w9 := hB7.trans (hB9.mono (by omega))
 have HB9 := Lib.hid (HB5.out.trans (hB79.mono HB5.out.size))
 have HCn := Lib.hid (concatS_any B.words B.places pw pq cw cq (w7.heap.size + 1) w5.heap.size w9 j3 (hr1.imp (Nat.le_refl _) (StrAt.later hB79)) (hr2.imp (Nat.le_refl _) (StrAt.later hB79)) (by omega) (by have := HWt.out; omega))
 have HR := Lib.hid (fun (W : World) (hW : Below w5.heap.size w5 W) => show BVal W w5.heap.size (.agg #[.slice pw B.words.length cw, .slice pq B.places.length cq, .bool B.secret, .bool B.refused]) B from ⟨pw, cw, pq, cq, rfl, hr1.imp (Nat.le_refl _) (StrAt.later hW), hr2.imp (Nat.le_refl _) (StrAt.later hW)⟩)
 have HJ := Lib.hid (show w9.heap[w5.heap.size]? = some (.cells #[.slice pw B.words.length cw, .slice pq B.places.length cq, .bool B.secret, .bool B.refused] 93 (0, 0)) ∧ Mp w9 (w5.heap.size + 1) (mem []) ∧ w9.heap[w7.heap.size]? = some (.cells #[.map (some (w5.heap.size + 1))] 97 (0, 0)) from
   ⟨(hB9.block _ (by omega)).trans j0, (by
     obtain ⟨es, clock, e1, e2⟩ := Mp.new w5
     have e1' : some (Obj.map es clock) = some (.map #[] 0) := by rw [← e1]; exact heap_alloc_new w5 _
     cases e1'
     exact ⟨#[], 0, (hB9.block _ (by omega)).trans j1, e2⟩), j2⟩)
 have HW9 := Lib.hid (show ((((w5.alloc (.cells #[.slice pw B.words.length cw, .slice pq B.places.length cq, .bool B.secret, .bool B.refused] 93)).alloc (.map #[] 0)).alloc (.cells #[.map (some (w5.heap.size + 1))] 97)).alloc (.cells #[.slice pw B.words.length cw, .slice pq B.places.length cq] 42)) = w9 by rw [hw7, hw9])
 have HZ79 := Lib.hid (show w7.heap.size = w5.heap.size + 2 ∧ w9.heap.size = w5.heap.size + 4 ∧ Below w5.heap.size w5 w9 from ⟨hz7, by omega, hB79⟩)
 rw [hz7] at HCn
 clear hB5 hr1 hr2 hw7 j0 j1 hB7 hz7 hw9 j2 j3 hB9 hz9 hB79 HBs
 go_wp2_with fail
 erw [HW9.out]
 refine HCn.out.mono ?_
 rintro z wa ⟨pc, cc, rfl, hrow, hBa⟩
 obtain ⟨l, hl⟩ : ∃ l, l = B.words ++ B.places := ⟨_, rfl⟩
 rw [← hl] at hrow ⊢
 have HL := Lib.hid hl
 have HRow := Lib.hid hrow
 have hml : l.length ≤ 140737488355328 := hrow.1
 have HBa := Lib.hid hBa
 have HMp := Lib.hid (HJ.out.2.1.later hBa)
 have HFa := Lib.hid (HF.out.later ((HU.out _ HB9.out).trans (hBa.mono (HU.out _ HB9.out).size)))
 have HSa := Lib.hid (show w9.heap.size ≤ wa.heap.size from hBa.size)
 have HFl := Lib.hid (show mb < w.heap.size from HF.out.lt)
 have HSw := Lib.hid (show w.heap.size ≤ w5.heap.size from (HU.out _ HB5.out).size)
 clear hmm hrow hBa hl HCn
 go_wp2_with fail
 go_loopw [51] (fun j wr => ∃ (dd r : List (List UInt8)), j = .int .i64 dd.length ∧ dd.length + r.length = l.length ∧ Hid (l = dd ++ r) ∧ Hid (dd.any (fun s => (F s).isNone) = false) ∧ Hid (Mp wr (w5.heap.size + 1) (mem (setsT (fun s => (F s).getD false) dd))) ∧ Hid (Fw (fun k => k = w5.heap.size + 1) wa wr)) (fun j _ => l.length - (intOf j).toNat)
 case atStart => exact ⟨[], l, rfl, by simp, Lib.hid rfl, Lib.hid rfl, HMp, Lib.hid (Fw.refl _ _)⟩
 case round =>
   obtain ⟨dd, r, rfl, hk, hE, hNo, hMr, hFr⟩ := hrel
   have HBr := Lib.hid (show Below w5.heap.size w5 wr from HZ79.out.2.2.trans ((HBa.out.mono (by have := HZ79.out.2.1; omega)).trans (hFr.out.below (by have := HSa.out; have := HZ79.out.2.1; omega) (fun k e => by subst e; omega))))
   cases r with
   | nil =>
     simp only [List.length_nil] at hk
     have hge : ¬ dd.length < l.length := by omega
     have HDe := Lib.hid (show dd = l by have := hE.out; rw [List.append_nil] at this; exact this.symm)
     have HV1 := Lib.hid (show V = if e.bd x fn (fun s => (F s).getD false) then (false, 10) else (e.sl x fn (fun s => (F s).getD false), 0) by
       rw [HV.out, lvR, if_neg (by rw [HCk.out]; simp), if_neg (by rw [← HHs.out]; unfold Bas.has; rw [← List.any_append, ← HL.out, ← HDe.out, hNo.out]; simp)])
     have HLv2 := Lib.hid (show B.lev (setsT (fun s => (F s).getD false) dd) = if e.bd x fn (fun s => (F s).getD false) then none else some (e.sl x fn (fun s => (F s).getD false)) by rw [← HLe.out, HDe.out, HL.out]; exact HLv.out _)
     have hN5 : w5.heap.size + 4 ≤ wr.heap.size := by have := hFr.out.size; have := HSa.out; have := HZ79.out.2.1; omega
     obtain ⟨ws, hws, ks, hBs, hzs⟩ := one_alloc wr (.cells #[.bool false] 4)
     have HBs := Lib.hid (HBr.out.trans (hBs.mono HBr.out.size))
     have HBK := Lib.hid (show ∀ k, k < w9.heap.size → k ≠ w5.heap.size + 1 → ws.heap[k]? = w9.heap[k]? from fun k hk hn => (hBs.block k (by have := HZ79.out.2.1; omega)).trans ((hFr.out.block k (by have := HSa.out; omega) hn).trans (HBa.out.block k hk)))
     have HMs := Lib.hid (hMr.out.later hBs)
     have HCl := Lib.hid (caughtLv_any (B.lev (setsT (fun s => (F s).getD false) dd)) w5.heap.size (w5.heap.size + 2) wr.heap.size ws (lt_blk ks) (fun W hW => level1_any B _ w5.heap.size (w5.heap.size + 2) wr.heap.size (w5.heap.size + 1) w5.heap.size _ W (HR.out W (HBs.out.trans (hW.mono HBs.out.size))) ⟨pw, cw, pq, cq, rfl, (hW.block _ (by omega)).trans ((HBK.out _ (by have := HZ79.out.2.1; omega) (by omega)).trans HJ.out.1)⟩ (by have := hW.size; omega) (HMs.out.later hW) ((hW.block _ (by omega)).trans ((HBK.out _ (by have := HZ79.out.2.1; omega) (by omega)).trans (by have := HJ.out.2.2; rw [HZ79.out.1] at this; exact this))) ((hW.block _ (lt_blk ks)).trans ks)))
     rw [HLv2.out] at HCl
     have HWs := Lib.hid hws
     have hmf2 : ∀ (fn : Fn) (first cap : Array Value) (w : World), (Instr.makeFunc fn first cap).run Tryz.prog w = .ok (.func fn first cap) w := fun _ _ _ _ => rfl
     have HEs := Lib.hid ((HU.out _ HB5.out).trans (HBs.out.mono HSw.out))
     have HKs := Lib.hid (show w.heap.size ≤ wr.heap.size by have := HSw.out; omega)
     have HKb := Lib.hid ks
     clear hws ks hBs hzs hN5 hMr hNo hE
     go_wp2_with fail
     erw [HWs.out]
     rw [← HZ79.out.1] at *
     refine HCl.out.mono ?_
     intro z wt ht
     rcases ht with ⟨hr, hsb, hFt⟩ | ⟨hr, hBt⟩
     · rename_i t
       have HVe := Lib.hid (show V = (t, 0) by
         rw [HV1.out]
         cases hbd : e.bd x fn (fun s => (F s).getD false) with
         | true => rw [hbd] at hr; cases hr
         | false => rw [hbd] at hr; cases hr; rfl)
       have z0 : wt.cell? ⟨wr.heap.size, 0, none⟩ = some (.bool t) := cell_blk hsb rfl
       have HY := Lib.hid (HEs.out.trans (hFt.below (by have := HEs.out.size; omega) (fun k e => by subst e; exact HKs.out)))
       clear hr hsb hFt HCl
       go_wp2_with fail
       go_ret2
       exact ⟨by (rw [HVe.out]) <;> rfl, HY.out⟩
     · have HVe := Lib.hid (show V = (false, 10) by
         rw [HV1.out]
         cases hbd : e.bd x fn (fun s => (F s).getD false) with
         | true => rfl
         | false => rw [hbd] at hr; cases hr)
       have z0 : wt.cell? ⟨wr.heap.size, 0, none⟩ = some (.bool false) := cell_blk ((hBt.block _ (lt_blk HKb.out)).trans HKb.out) rfl
       have HY := Lib.hid (HEs.out.trans (hBt.mono HEs.out.size))
       clear hr hBt HCl
       go_wp2_with fail
       go_ret2
       exact ⟨by (rw [HVe.out]) <;> rfl, HY.out⟩
   | cons y r =>
     simp only [List.length_cons] at hk
     have hlt : dd.length < l.length := by omega
     obtain ⟨bc, oc, rfl, hbc, hyc⟩ := rowk HRow.out hE.out
     rw [Nat.mul_one] at hyc
     have hyr : wr.cell? ⟨bc, oc + dd.length, none⟩ = some (.string (str y)) := by
       have hne : bc ≠ w5.heap.size + 1 := fun e => by
         obtain ⟨es, clock, hmp, _⟩ := HMp.out
         have h3 : wa.cell? ⟨bc, oc + dd.length, none⟩ = some (.string (str y)) := hyc
         rw [e] at h3
         simp [World.cell?, hmp] at h3
       have h2 := hFr.out.block bc hbc hne
       have h3 : wa.cell? ⟨bc, oc + dd.length, none⟩ = some (.string (str y)) := hyc
       simp only [World.cell?, h2] at h3 ⊢
       exact h3
     have hlk := (show Bm wr mb F from HFa.out.of_block (hFr.out.block mb (by have := HFa.out.lt; omega) (by have := HFl.out; have := HSw.out; omega))).look Tryz.underlying49 Tryz.underlying9 zeroB y
     cases hFy : F y with
     | none =>
       rw [hFy] at hlk
       simp only [Option.isSome_none, Option.getD_none] at hlk
       have HVe := Lib.hid (show V = (false, 2) by
         rw [HV.out, lvR, if_neg (by rw [HCk.out]; simp), if_pos (by rw [← HHs.out]; unfold Bas.has; rw [← List.any_append, ← HL.out, hE.out, List.any_append, List.any_cons, hFy]; simp)])
       have HY := Lib.hid ((HU.out _ HB5.out).trans (HBr.out.mono HSw.out))
       clear hFy hE hNo hyc hbc
       go_wp2_with fail
       go_ret2
       exact ⟨by (rw [HVe.out]) <;> rfl, HY.out⟩
     | some t =>
       rw [hFy] at hlk
       simp only [Option.isSome_some, Option.getD_some] at hlk
       have HSet := Lib.hid (lvSet_any _ y t (w5.heap.size + 1) wr hMr.out)
       have HNo2 := Lib.hid (show (dd ++ [y]).any (fun s => (F s).isNone) = false by rw [List.any_append, hNo.out]; simp [hFy])
       have HGy := Lib.hid (show (F y).getD false = t by rw [hFy]; rfl)
       have q0 : wr.cell? ⟨w7.heap.size, 0, none⟩ = some (.map (some (w5.heap.size + 1))) := by
         have h1 := HZ79.out
         exact cell_blk ((hFr.out.block _ (by have := HSa.out; omega) (by omega)).trans ((HBa.out.block _ (by omega)).trans HJ.out.2.2)) rfl
       rw [HZ79.out.1] at q0
       clear hFy hNo hyc hbc hMr
       go_wp2_with fail
       refine HSet.out.mono ?_
       rintro z wx ⟨rfl, hMx, hBx⟩
       have HX2 := Lib.hid (And.intro (show Mp wx (w5.heap.size + 1) (mem (setsT (fun s => (F s).getD false) (dd ++ [y]))) from by rw [setsT_snoc, mem_set]; show Mp wx _ (withT _ y ((F y).getD false)); rw [HGy.out]; exact hMx) (hFr.out.trans (Fw.of_but hBx)))
       clear hMx hBx HSet hlk hyr q0
       go_wp2_with fail
       go_roundw
       case rel => exact ⟨dd ++ [y], r, by rw [List.length_append]; go_num, by simp; omega, Lib.hid (by rw [hE.out]; simp), HNo2, Lib.hid HX2.out.1, Lib.hid HX2.out.2⟩
       case measure => simp [intOf]; omega
end Go.Proofs.YtihmibggonffdaaGreat
