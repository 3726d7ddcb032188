/- J3, J4, J5 as one. -/
import Derived.Test.YtihmibggonffdaaGreatF1
import Derived.Test.YtihmibggonffdaaGreatJ2
/- A place; the kind of a name; words and arrays. -/
namespace Go.Proofs.YtihmibggonffdaaGreat
open Go.RowKit

structure Plc where
 (pb fi mb : Nat) (ar : List (List UInt8)) (ap : Option Addr) (ac deep : Nat)
def Plc.v (t : Plc) : Value := .agg #[.pointer (some ⟨t.pb, 0, none⟩), .int .i64 (t.fi : Int), .map (some t.mb), .slice t.ap t.ar.length t.ac, .int .i64 (t.deep : Int)]
def Plc.obj (t : Plc) : Obj := .cells #[.pointer (some ⟨t.pb, 0, none⟩), .int .i64 (t.fi : Int), .map (some t.mb), .slice t.ap t.ar.length t.ac, .int .i64 (t.deep : Int)] 113 (0, 0)
structure PlOk (w : World) (N : Nat) (x : Prg) (s : PrgP) (fn : Fnc) (f : List UInt8 → Nat) (t : Plc) : Prop where
 pb : w.heap[t.pb]? = some (.cells #[.slice s.p x.regs.length s.c, .slice s.q x.fns.length s.d] 25 (0, 0))
 ok : x.Ok w N s.p s.q
 fi : x.fns[t.fi]? = some fn
 mp : Cm w t.mb f
 ar : RowIn w.heap.size (StrAt w) 1 t.ar t.ap
 cap : t.ar.length ≤ t.ac
 hN : N ≤ w.heap.size
theorem PlOk.later {w w' : World} {N : Nat} {x : Prg} {s : PrgP} {fn : Fnc} {f : List UInt8 → Nat} {t : Plc} (h : PlOk w N x s fn f t) (hB : Below w.heap.size w w') : PlOk w' N x s fn f t :=
 ⟨(hB.block _ (lt_blk h.pb)).trans h.pb, h.ok.later (hB.mono h.hN) (Nat.le_refl N), h.fi, h.mp.later hB, h.ar.imp hB.size (StrAt.later hB), h.cap, Nat.le_trans h.hN hB.size⟩
set_option maxRecDepth 100000 in
set_option maxHeartbeats 6400000 in
theorem kindOf_any (x : Prg) (s : PrgP) (fn : Fnc) (f : List UInt8 → Nat) (t : Plc) (nm : List UInt8) (N : Nat) (w : World) (h : PlOk w N x s fn f t) :
   Calls Tryz.prog 130 #[t.v, .string (str nm)] w fun z w' => z = (if (found x fn nm).2.1 then .returned (.int .i64 (found x fn nm).1.kind) else Pn 8) ∧ Below w.heap.size w w' := by
 obtain ⟨W0, hW0, k0, hB0, hz0⟩ := one_alloc w t.obj
 have h' := h.later hB0
 have HFi := Lib.hid (fun (W : World) (hB : Below W0.heap.size W0 W) => find_any x s t.fi fn nm N W ((h'.later hB).ok) (h'.later hB).hN h'.fi)
 have HB0 := Lib.hid hB0
 have HW0 := Lib.hid hW0
 have c0 : W0.cell? ⟨w.heap.size, 0, none⟩ = some (.pointer (some ⟨t.pb, 0, none⟩)) := cell_blk k0 rfl
 have c1 : W0.cell? ⟨w.heap.size, 1, none⟩ = some (.int .i64 (t.fi : Int)) := cell_blk k0 rfl
 have p0 : W0.cell? ⟨t.pb, 0, none⟩ = some (.slice s.p x.regs.length s.c) := cell_blk h'.pb rfl
 have p1 : W0.cell? ⟨t.pb, 1, none⟩ = some (.slice s.q x.fns.length s.d) := cell_blk h'.pb rfl
 obtain ⟨⟨v, is, rg⟩, hr⟩ : ∃ r, found x fn nm = r := ⟨_, rfl⟩
 rw [hr] at HFi ⊢
 unfold Plc.obj at HW0
 unfold foundV vrV Prg.v at HFi
 unfold Plc.v
 have HLt : w.heap.size < W0.heap.size ∧ t.pb < W0.heap.size := ⟨by omega, lt_blk h'.pb⟩
 clear h h' hW0 k0 hB0 hz0 hr
 go_enter Tryz.func130, Tryz.ntmps130
 go_upto_region 1 with fail
 rw [HW0.out]
 have HL := Lib.hid (show w.heap.size < W0.heap.size ∧ t.pb < W0.heap.size from HLt)
 clear HLt
 cases is with
 | true =>
   have HS : Below W0.heap.size W0 W0.drew := (Below.refl _ _).drew
   refine wp_region_held_drew (S := fun W => Below W0.heap.size W0 W ∧ W.cell? ⟨w.heap.size, 0, none⟩ = some (.pointer (some ⟨t.pb, 0, none⟩)) ∧ W.cell? ⟨w.heap.size, 1, none⟩ = some (.int .i64 (t.fi : Int)) ∧ W.cell? ⟨t.pb, 0, none⟩ = some (.slice s.p x.regs.length s.c) ∧ W.cell? ⟨t.pb, 1, none⟩ = some (.slice s.q x.fns.length s.d)) (by kernel_rfl) ?_ (fun hHeld => ?_)
   · exact ⟨HS, (HS.cell (p := ⟨w.heap.size, 0, none⟩) HL.out.1).trans c0, (HS.cell (p := ⟨w.heap.size, 1, none⟩) HL.out.1).trans c1, (HS.cell (p := ⟨t.pb, 0, none⟩) HL.out.2).trans p0, (HS.cell (p := ⟨t.pb, 1, none⟩) HL.out.2).trans p1⟩
   refine tq 0 ?_
   refine tq 1 ?_
   refine tq 2 ?_
   refine tq 3 ?_
   refine tq 4 ?_
   refine tq 5 ?_
   refine tq 6 ?_
   refine wpAnyH_ready (rs := [7, 12]) (by kernel_rfl) (by simp) ?_
   refine rdy rfl (fun K hK => ?_) (rdy rfl (fun K hK => ?_) AllReadyH.nil)
   · go_simp
     refine (HFi.out _ HS).mono ?_
     rintro z w1 ⟨rfl, hB1⟩
     replace HS := HS.trans (hB1.mono HS.size)
     refine hK.out _ _ ?_ (fun hHeld => ?_)
     · exact ⟨HS, (HS.cell (p := ⟨w.heap.size, 0, none⟩) HL.out.1).trans c0, (HS.cell (p := ⟨w.heap.size, 1, none⟩) HL.out.1).trans c1, (HS.cell (p := ⟨t.pb, 0, none⟩) HL.out.2).trans p0, (HS.cell (p := ⟨t.pb, 1, none⟩) HL.out.2).trans p1⟩
     clear hK K
     try simp only
     refine tq 8 ?_
     refine tq 9 ?_
     refine tq 10 ?_
     refine tq 11 ?_
     refine wpAnyH_ready (rs := [12]) (by kernel_rfl) (by simp) ?_
     refine rdy rfl (fun K hK => ?_) AllReadyH.nil
     go_simp
     have HSa := HS.alloc HS.size (.cells #[.string ⟨#[]⟩, .int .i64 0, .int .i64 0, .bool false] 58)
     refine hK.out _ _ ?_ (fun hHeld => ?_)
     · exact ⟨HSa, (HSa.cell (p := ⟨w.heap.size, 0, none⟩) HL.out.1).trans c0, (HSa.cell (p := ⟨w.heap.size, 1, none⟩) HL.out.1).trans c1, (HSa.cell (p := ⟨t.pb, 0, none⟩) HL.out.2).trans p0, (HSa.cell (p := ⟨t.pb, 1, none⟩) HL.out.2).trans p1⟩
     clear hK K
     try simp only [Act.put, List.setIfInBounds_toArray, List.set_cons_zero, List.set_cons_succ]
     refine wpAnyH_ready (rs := [13]) (by kernel_rfl) (by simp) ?_
     refine rdy rfl (fun K hK => ?_) AllReadyH.nil
     go_simp
     have hst := HS.alloc HS.size (.cells #[.string (str v.name), .int .i64 v.kind, .int .i64 v.size, .bool v.secret] 58)
     replace HS := hst
     clear hst
     refine hK.out _ _ ?_ (fun hHeld => ?_)
     · exact ⟨HS, (HS.cell (p := ⟨w.heap.size, 0, none⟩) HL.out.1).trans c0, (HS.cell (p := ⟨w.heap.size, 1, none⟩) HL.out.1).trans c1, (HS.cell (p := ⟨t.pb, 0, none⟩) HL.out.2).trans p0, (HS.cell (p := ⟨t.pb, 1, none⟩) HL.out.2).trans p1⟩
     clear hK K
     try simp only [Act.put, List.setIfInBounds_toArray, List.set_cons_zero, List.set_cons_succ]
     refine tq 14 ?_
     refine tq 15 ?_
     refine wpAnyH_done (by kernel_rfl) ?_ _
     clear c0 c1 p0 p1
     go_wp2_with (go_at_call 79; refine (must_yes 8 _).mono ?_; rintro e w' ⟨rfl, hw⟩; subst hw)
     go_ret
     exact ⟨rfl, HB0.out.trans (HS.mono HB0.out.size)⟩
   · go_simp
     replace HS := HS.alloc HS.size (.cells #[.string ⟨#[]⟩, .int .i64 0, .int .i64 0, .bool false] 58)
     refine hK.out _ _ ?_ (fun hHeld => ?_)
     · exact ⟨HS, (HS.cell (p := ⟨w.heap.size, 0, none⟩) HL.out.1).trans c0, (HS.cell (p := ⟨w.heap.size, 1, none⟩) HL.out.1).trans c1, (HS.cell (p := ⟨t.pb, 0, none⟩) HL.out.2).trans p0, (HS.cell (p := ⟨t.pb, 1, none⟩) HL.out.2).trans p1⟩
     clear hK K
     try simp only [Act.put, List.setIfInBounds_toArray, List.set_cons_zero, List.set_cons_succ]
     refine wpAnyH_ready (rs := [7]) (by kernel_rfl) (by simp) ?_
     refine rdy rfl (fun K hK => ?_) AllReadyH.nil
     go_simp
     refine (HFi.out _ HS).mono ?_
     rintro z w1 ⟨rfl, hB1⟩
     have hz : w1.heap[W0.heap.size]? = some (.cells #[.string ⟨#[]⟩, .int .i64 0, .int .i64 0, .bool false] 58 (0, 0)) := (hB1.block W0.heap.size (by simp)).trans (heap_alloc_new W0.drew _)
     replace HS := HS.trans (hB1.mono HS.size)
     have q0 := cell_blk hz (j := 0) rfl
     have q1 := cell_blk hz (j := 1) rfl
     have q2 := cell_blk hz (j := 2) rfl
     have q3 := cell_blk hz (j := 3) rfl
     have hfz : ∀ j, w1.frozen? ⟨W0.heap.size, j, none⟩ = false := fun j => by simp [World.frozen?, hz]
     have z0 := hfz 0
     have z1 := hfz 1
     have z2 := hfz 2
     have z3 := hfz 3
     clear hfz
     refine hK.out _ _ ?_ (fun hHeld => ?_)
     · exact ⟨HS, (HS.cell (p := ⟨w.heap.size, 0, none⟩) HL.out.1).trans c0, (HS.cell (p := ⟨w.heap.size, 1, none⟩) HL.out.1).trans c1, (HS.cell (p := ⟨t.pb, 0, none⟩) HL.out.2).trans p0, (HS.cell (p := ⟨t.pb, 1, none⟩) HL.out.2).trans p1⟩
     clear hK K
     try simp only
     refine tq 8 ?_
     refine tq 9 ?_
     refine tq 10 ?_
     refine tq 11 ?_
     refine wpAnyH_ready (rs := [13]) (by kernel_rfl) (by simp) ?_
     refine rdy rfl (fun K hK => ?_) AllReadyH.nil
     go_simp
     replace HS := below_set4 HS (Nat.le_refl W0.heap.size) (.string (str v.name)) (.int .i64 v.kind) (.int .i64 v.size) (.bool v.secret)
     refine hK.out _ _ ?_ (fun hHeld => ?_)
     · exact ⟨HS, (HS.cell (p := ⟨w.heap.size, 0, none⟩) HL.out.1).trans c0, (HS.cell (p := ⟨w.heap.size, 1, none⟩) HL.out.1).trans c1, (HS.cell (p := ⟨t.pb, 0, none⟩) HL.out.2).trans p0, (HS.cell (p := ⟨t.pb, 1, none⟩) HL.out.2).trans p1⟩
     clear hK K
     try simp only [Act.put, List.setIfInBounds_toArray, List.set_cons_zero, List.set_cons_succ]
     refine tq 14 ?_
     refine tq 15 ?_
     refine wpAnyH_done (by kernel_rfl) ?_ _
     clear c0 c1 p0 p1
     go_wp2_with (go_at_call 79; refine (must_yes 8 _).mono ?_; rintro e w' ⟨rfl, hw⟩; subst hw)
     go_ret
     exact ⟨rfl, HB0.out.trans (HS.mono HB0.out.size)⟩
 | false =>
   have HS : Below W0.heap.size W0 W0.drew := (Below.refl _ _).drew
   refine wp_region_held_drew (S := fun W => Below W0.heap.size W0 W ∧ W.cell? ⟨w.heap.size, 0, none⟩ = some (.pointer (some ⟨t.pb, 0, none⟩)) ∧ W.cell? ⟨w.heap.size, 1, none⟩ = some (.int .i64 (t.fi : Int)) ∧ W.cell? ⟨t.pb, 0, none⟩ = some (.slice s.p x.regs.length s.c) ∧ W.cell? ⟨t.pb, 1, none⟩ = some (.slice s.q x.fns.length s.d)) (by kernel_rfl) ?_ (fun hHeld => ?_)
   · exact ⟨HS, (HS.cell (p := ⟨w.heap.size, 0, none⟩) HL.out.1).trans c0, (HS.cell (p := ⟨w.heap.size, 1, none⟩) HL.out.1).trans c1, (HS.cell (p := ⟨t.pb, 0, none⟩) HL.out.2).trans p0, (HS.cell (p := ⟨t.pb, 1, none⟩) HL.out.2).trans p1⟩
   refine tq 0 ?_
   refine tq 1 ?_
   refine tq 2 ?_
   refine tq 3 ?_
   refine tq 4 ?_
   refine tq 5 ?_
   refine tq 6 ?_
   refine wpAnyH_ready (rs := [7, 12]) (by kernel_rfl) (by simp) ?_
   refine rdy rfl (fun K hK => ?_) (rdy rfl (fun K hK => ?_) AllReadyH.nil)
   · go_simp
     refine (HFi.out _ HS).mono ?_
     rintro z w1 ⟨rfl, hB1⟩
     replace HS := HS.trans (hB1.mono HS.size)
     refine hK.out _ _ ?_ (fun hHeld => ?_)
     · exact ⟨HS, (HS.cell (p := ⟨w.heap.size, 0, none⟩) HL.out.1).trans c0, (HS.cell (p := ⟨w.heap.size, 1, none⟩) HL.out.1).trans c1, (HS.cell (p := ⟨t.pb, 0, none⟩) HL.out.2).trans p0, (HS.cell (p := ⟨t.pb, 1, none⟩) HL.out.2).trans p1⟩
     clear hK K
     try simp only
     refine tq 8 ?_
     refine tq 9 ?_
     refine tq 10 ?_
     refine tq 11 ?_
     refine wpAnyH_ready (rs := [12]) (by kernel_rfl) (by simp) ?_
     refine rdy rfl (fun K hK => ?_) AllReadyH.nil
     go_simp
     have HSa := HS.alloc HS.size (.cells #[.string ⟨#[]⟩, .int .i64 0, .int .i64 0, .bool false] 58)
     refine hK.out _ _ ?_ (fun hHeld => ?_)
     · exact ⟨HSa, (HSa.cell (p := ⟨w.heap.size, 0, none⟩) HL.out.1).trans c0, (HSa.cell (p := ⟨w.heap.size, 1, none⟩) HL.out.1).trans c1, (HSa.cell (p := ⟨t.pb, 0, none⟩) HL.out.2).trans p0, (HSa.cell (p := ⟨t.pb, 1, none⟩) HL.out.2).trans p1⟩
     clear hK K
     try simp only [Act.put, List.setIfInBounds_toArray, List.set_cons_zero, List.set_cons_succ]
     refine wpAnyH_ready (rs := [13]) (by kernel_rfl) (by simp) ?_
     refine rdy rfl (fun K hK => ?_) AllReadyH.nil
     go_simp
     have hst := HS.alloc HS.size (.cells #[.string (str v.name), .int .i64 v.kind, .int .i64 v.size, .bool v.secret] 58)
     replace HS := hst
     clear hst
     refine hK.out _ _ ?_ (fun hHeld => ?_)
     · exact ⟨HS, (HS.cell (p := ⟨w.heap.size, 0, none⟩) HL.out.1).trans c0, (HS.cell (p := ⟨w.heap.size, 1, none⟩) HL.out.1).trans c1, (HS.cell (p := ⟨t.pb, 0, none⟩) HL.out.2).trans p0, (HS.cell (p := ⟨t.pb, 1, none⟩) HL.out.2).trans p1⟩
     clear hK K
     try simp only [Act.put, List.setIfInBounds_toArray, List.set_cons_zero, List.set_cons_succ]
     refine tq 14 ?_
     refine tq 15 ?_
     refine wpAnyH_done (by kernel_rfl) ?_ _
     clear c0 c1 p0 p1
     go_wp2_with (go_at_call 79; refine (must_no 8 _).mono ?_; rintro e w' ⟨rfl, hw⟩; subst hw; unfold Pn)
     exact ⟨rfl, rfl, HB0.out.trans (HS.mono HB0.out.size)⟩
   · go_simp
     replace HS := HS.alloc HS.size (.cells #[.string ⟨#[]⟩, .int .i64 0, .int .i64 0, .bool false] 58)
     refine hK.out _ _ ?_ (fun hHeld => ?_)
     · exact ⟨HS, (HS.cell (p := ⟨w.heap.size, 0, none⟩) HL.out.1).trans c0, (HS.cell (p := ⟨w.heap.size, 1, none⟩) HL.out.1).trans c1, (HS.cell (p := ⟨t.pb, 0, none⟩) HL.out.2).trans p0, (HS.cell (p := ⟨t.pb, 1, none⟩) HL.out.2).trans p1⟩
     clear hK K
     try simp only [Act.put, List.setIfInBounds_toArray, List.set_cons_zero, List.set_cons_succ]
     refine wpAnyH_ready (rs := [7]) (by kernel_rfl) (by simp) ?_
     refine rdy rfl (fun K hK => ?_) AllReadyH.nil
     go_simp
     refine (HFi.out _ HS).mono ?_
     rintro z w1 ⟨rfl, hB1⟩
     have hz : w1.heap[W0.heap.size]? = some (.cells #[.string ⟨#[]⟩, .int .i64 0, .int .i64 0, .bool false] 58 (0, 0)) := (hB1.block W0.heap.size (by simp)).trans (heap_alloc_new W0.drew _)
     replace HS := HS.trans (hB1.mono HS.size)
     have q0 := cell_blk hz (j := 0) rfl
     have q1 := cell_blk hz (j := 1) rfl
     have q2 := cell_blk hz (j := 2) rfl
     have q3 := cell_blk hz (j := 3) rfl
     have hfz : ∀ j, w1.frozen? ⟨W0.heap.size, j, none⟩ = false := fun j => by simp [World.frozen?, hz]
     have z0 := hfz 0
     have z1 := hfz 1
     have z2 := hfz 2
     have z3 := hfz 3
     clear hfz
     refine hK.out _ _ ?_ (fun hHeld => ?_)
     · exact ⟨HS, (HS.cell (p := ⟨w.heap.size, 0, none⟩) HL.out.1).trans c0, (HS.cell (p := ⟨w.heap.size, 1, none⟩) HL.out.1).trans c1, (HS.cell (p := ⟨t.pb, 0, none⟩) HL.out.2).trans p0, (HS.cell (p := ⟨t.pb, 1, none⟩) HL.out.2).trans p1⟩
     clear hK K
     try simp only
     refine tq 8 ?_
     refine tq 9 ?_
     refine tq 10 ?_
     refine tq 11 ?_
     refine wpAnyH_ready (rs := [13]) (by kernel_rfl) (by simp) ?_
     refine rdy rfl (fun K hK => ?_) AllReadyH.nil
     go_simp
     replace HS := below_set4 HS (Nat.le_refl W0.heap.size) (.string (str v.name)) (.int .i64 v.kind) (.int .i64 v.size) (.bool v.secret)
     refine hK.out _ _ ?_ (fun hHeld => ?_)
     · exact ⟨HS, (HS.cell (p := ⟨w.heap.size, 0, none⟩) HL.out.1).trans c0, (HS.cell (p := ⟨w.heap.size, 1, none⟩) HL.out.1).trans c1, (HS.cell (p := ⟨t.pb, 0, none⟩) HL.out.2).trans p0, (HS.cell (p := ⟨t.pb, 1, none⟩) HL.out.2).trans p1⟩
     clear hK K
     try simp only [Act.put, List.setIfInBounds_toArray, List.set_cons_zero, List.set_cons_succ]
     refine tq 14 ?_
     refine tq 15 ?_
     refine wpAnyH_done (by kernel_rfl) ?_ _
     clear c0 c1 p0 p1
     go_wp2_with (go_at_call 79; refine (must_no 8 _).mono ?_; rintro e w' ⟨rfl, hw⟩; subst hw; unfold Pn)
     exact ⟨rfl, rfl, HB0.out.trans (HS.mono HB0.out.size)⟩
/- Words, arrays, what is set, names in a list. -/
open Go.RowKit

def wordR (x : Prg) (fn : Fnc) (nm : List UInt8) : Nat := if (found x fn nm).2.1 then ask ((found x fn nm).1.kind == 1) 9 else 8
def arrayR (x : Prg) (fn : Fnc) (nm : List UInt8) : Nat := if (found x fn nm).2.1 then ask ((found x fn nm).1.kind != 1) 9 else 8
def setR (x : Prg) (fn : Fnc) (f : List UInt8 → Nat) (nm : List UInt8) : Nat := seq (wordR x fn nm) (ask (decide (f nm = 0)) 2)
theorem Plc.cells {W : World} {g : Nat} {t : Plc} (k : W.heap[g]? = some t.obj) : W.cell? ⟨g, 0, none⟩ = some (.pointer (some ⟨t.pb, 0, none⟩)) ∧ W.cell? ⟨g, 1, none⟩ = some (.int .i64 (t.fi : Int)) ∧ W.cell? ⟨g, 2, none⟩ = some (.map (some t.mb)) ∧ W.cell? ⟨g, 3, none⟩ = some (.slice t.ap t.ar.length t.ac) ∧ W.cell? ⟨g, 4, none⟩ = some (.int .i64 (t.deep : Int)) :=
 ⟨cell_blk k rfl, cell_blk k rfl, cell_blk k rfl, cell_blk k rfl, cell_blk k rfl⟩
set_option maxHeartbeats 3200000 in
theorem word_any (x : Prg) (s : PrgP) (fn : Fnc) (f : List UInt8 → Nat) (t : Plc) (nm : List UInt8) (N : Nat) (w : World) (h : PlOk w N x s fn f t) :
   Calls Tryz.prog 129 #[t.v, .string (str nm)] w (Chk (wordR x fn nm) w) := by
 obtain ⟨W0, hW0, k0, hB0, hz0⟩ := one_alloc w t.obj
 have HFi := Lib.hid (kindOf_any x s fn f t nm N W0 (h.later hB0))
 have HB0 := Lib.hid hB0
 have HW0 := Lib.hid hW0
 obtain ⟨c0, c1, c2, c3, c4⟩ := Plc.cells k0
 obtain ⟨⟨v, is, rg⟩, hr⟩ : ∃ r, found x fn nm = r := ⟨_, rfl⟩
 unfold wordR
 rw [hr] at HFi ⊢
 unfold Plc.obj at HW0
 unfold Plc.v at HFi ⊢
 clear h hW0 k0 hB0 hz0 hr
 cases is with
 | false =>
   go_enter Tryz.func129, Tryz.ntmps129
   go_upto_region 1 with fail
   rw [HW0.out]
   go_wp2_with fail
   refine HFi.out.mono ?_
   rintro z w1 ⟨rfl, hB1⟩
   have HR := Lib.hid (show Chk 8 w (Pn 8) w1 from Chk.no' (e := 8) rfl (by decide) (HB0.out.trans (hB1.mono HB0.out.size)))
   simp only [Bool.false_eq_true, if_false]
   unfold Pn at HR ⊢
   clear hB1
   go_wp2_with fail
   exact ⟨rfl, HR.out⟩
 | true =>
   simp only [if_true] at HFi ⊢
   generalize v.kind = k at HFi
   generalize e1 : (k == 1) = t1
   cases t1 with
   | false =>
     go_enter Tryz.func129, Tryz.ntmps129
     go_upto_region 1 with fail
     rw [HW0.out]
     go_wp2_with fail
     refine HFi.out.mono ?_
     rintro z w1 ⟨rfl, hB1⟩
     have HR := Lib.hid (show Chk (ask false 9) w (Pn 9) w1 from Chk.no' (e := 9) rfl (by decide) (HB0.out.trans (hB1.mono HB0.out.size)))
     unfold Pn at HR
     clear hB1
     go_wp2_with (go_at_call 79; refine (must_no 9 _).mono ?_; rintro e w' ⟨rfl, hw⟩; subst hw; unfold Pn)
     exact ⟨rfl, HR.out⟩
   | true =>
     go_enter Tryz.func129, Tryz.ntmps129
     go_upto_region 1 with fail
     rw [HW0.out]
     go_wp2_with fail
     refine HFi.out.mono ?_
     rintro z w1 ⟨rfl, hB1⟩
     have HR := Lib.hid (show Chk (ask true 9) w (.returned (.tuple #[])) w1 from .ok rfl (HB0.out.trans (hB1.mono HB0.out.size)))
     clear hB1
     go_wp2_with (go_at_call 79; refine (must_yes 9 _).mono ?_; rintro e w' ⟨rfl, hw⟩; subst hw)
     go_end0
     exact HR.out
set_option maxHeartbeats 3200000 in
theorem array_any (x : Prg) (s : PrgP) (fn : Fnc) (f : List UInt8 → Nat) (t : Plc) (nm : List UInt8) (N : Nat) (w : World) (h : PlOk w N x s fn f t) :
   Calls Tryz.prog 105 #[t.v, .string (str nm)] w (Chk (arrayR x fn nm) w) := by
 obtain ⟨W0, hW0, k0, hB0, hz0⟩ := one_alloc w t.obj
 have HFi := Lib.hid (kindOf_any x s fn f t nm N W0 (h.later hB0))
 have HB0 := Lib.hid hB0
 have HW0 := Lib.hid hW0
 obtain ⟨c0, c1, c2, c3, c4⟩ := Plc.cells k0
 obtain ⟨⟨v, is, rg⟩, hr⟩ : ∃ r, found x fn nm = r := ⟨_, rfl⟩
 unfold arrayR
 rw [hr] at HFi ⊢
 unfold Plc.obj at HW0
 unfold Plc.v at HFi ⊢
 clear h hW0 k0 hB0 hz0 hr
 cases is with
 | false =>
   go_enter Tryz.func105, Tryz.ntmps105
   go_upto_region 1 with fail
   rw [HW0.out]
   go_wp2_with fail
   refine HFi.out.mono ?_
   rintro z w1 ⟨rfl, hB1⟩
   have HR := Lib.hid (show Chk 8 w (Pn 8) w1 from Chk.no' (e := 8) rfl (by decide) (HB0.out.trans (hB1.mono HB0.out.size)))
   simp only [Bool.false_eq_true, if_false]
   unfold Pn at HR ⊢
   clear hB1
   go_wp2_with fail
   exact ⟨rfl, HR.out⟩
 | true =>
   simp only [if_true] at HFi ⊢
   generalize v.kind = k at HFi
   generalize e1 : (k != 1) = t1
   cases t1 with
   | false =>
     go_enter Tryz.func105, Tryz.ntmps105
     go_upto_region 1 with fail
     rw [HW0.out]
     go_wp2_with fail
     refine HFi.out.mono ?_
     rintro z w1 ⟨rfl, hB1⟩
     have HR := Lib.hid (show Chk (ask false 9) w (Pn 9) w1 from Chk.no' (e := 9) rfl (by decide) (HB0.out.trans (hB1.mono HB0.out.size)))
     unfold Pn at HR
     clear hB1
     go_wp2_with (go_at_call 79; refine (must_no 9 _).mono ?_; rintro e w' ⟨rfl, hw⟩; subst hw; unfold Pn)
     exact ⟨rfl, HR.out⟩
   | true =>
     go_enter Tryz.func105, Tryz.ntmps105
     go_upto_region 1 with fail
     rw [HW0.out]
     go_wp2_with fail
     refine HFi.out.mono ?_
     rintro z w1 ⟨rfl, hB1⟩
     have HR := Lib.hid (show Chk (ask true 9) w (.returned (.tuple #[])) w1 from .ok rfl (HB0.out.trans (hB1.mono HB0.out.size)))
     clear hB1
     go_wp2_with (go_at_call 79; refine (must_yes 9 _).mono ?_; rintro e w' ⟨rfl, hw⟩; subst hw)
     go_end0
     exact HR.out
set_option maxHeartbeats 3200000 in
theorem set_any (x : Prg) (s : PrgP) (fn : Fnc) (f : List UInt8 → Nat) (t : Plc) (nm : List UInt8) (N : Nat) (w : World) (h : PlOk w N x s fn f t) :
   Calls Tryz.prog 104 #[t.v, .string (str nm)] w (Chk (setR x fn f nm) w) := by
 obtain ⟨W0, hW0, k0, hB0, hz0⟩ := one_alloc w t.obj
 have HFi := Lib.hid (word_any x s fn f t nm N W0 (h.later hB0))
 have HB0 := Lib.hid hB0
 have HW0 := Lib.hid hW0
 have HL := Lib.hid (fun (W : World) (hB : Below W0.heap.size W0 W) => show W.cell? ⟨w.heap.size, 2, none⟩ = some (.map (some t.mb)) ∧ (Instr.lookup 111 (.map (some t.mb)) (.string (str nm)) false).run Tryz.prog W = .ok (.int .i64 (f nm : Int)) W from
   ⟨cell_blk ((hB.block _ (lt_blk k0)).trans k0) rfl, (((h.later hB0).later hB).mp).look Tryz.underlying111 Tryz.underlying9 zeroInt nm⟩)
 obtain ⟨c0, c1, c2, c3, c4⟩ := Plc.cells k0
 unfold setR
 generalize wordR x fn nm = r at HFi ⊢
 unfold Plc.obj at HW0
 unfold Plc.v at HFi ⊢
 clear h hW0 k0 hB0 hz0
 go_enter Tryz.func104, Tryz.ntmps104
 go_upto_region 1 with fail
 rw [HW0.out]
 go_wp2_with fail
 refine HFi.out.mono ?_
 intro z w1 hc
 rcases hc with ⟨h1, hB1⟩ | ⟨h1, hB1⟩
 rotate_left
 · have HR := Lib.hid (show Chk (seq r (ask (decide (f nm = 0)) 2)) w (Pn (r : Int)) w1 from by rw [seq_no h1]; exact .no h1 (HB0.out.trans (hB1.mono HB0.out.size)))
   unfold Pn at HR ⊢
   clear hB1 h1 c0 c1 c2 c3 c4
   go_wp2_with fail
   exact ⟨rfl, HR.out⟩
 subst h1
 obtain ⟨l0, l1⟩ := HL.out w1 hB1
 have HB1 := Lib.hid (HB0.out.trans (hB1.mono HB0.out.size))
 have he : ((f nm : Int) == 0) = decide (f nm = 0) := by rw [Bool.eq_iff_iff]; simp
 have HD := Lib.hid (show decide (f nm = 0) = decide (f nm = 0) from rfl)
 clear hB1 c0 c1 c2 c3 c4
 obtain ⟨t1, ht1⟩ : ∃ t1, decide (f nm = 0) = t1 := ⟨_, rfl⟩
 have HD := Lib.hid ht1
 rw [ht1] at he
 clear ht1
 cases t1 with
 | true =>
   have HR := Lib.hid (show Chk (seq 0 (ask (decide (f nm = 0)) 2)) w (.returned (.tuple #[])) w1 from .ok (by rw [HD.out]; rfl) HB1.out)
   go_wp2_with (go_at_call 79; refine (must_yes 2 _).mono ?_; rintro e w' ⟨rfl, hw⟩; subst hw)
   go_end0
   exact HR.out
 | false =>
   have HR := Lib.hid (show Chk (seq 0 (ask (decide (f nm = 0)) 2)) w (Pn 2) w1 from Chk.no' (e := 2) (by rw [HD.out]; rfl) (by decide) HB1.out)
   unfold Pn at HR
   go_wp2_with (go_at_call 79; refine (must_no 2 _).mono ?_; rintro e w' ⟨rfl, hw⟩; subst hw; unfold Pn)
   exact ⟨rfl, HR.out⟩
theorem str_get {w : World} {l : List (List UInt8)} {b o : Nat} (h : Row (StrAt w) 1 l b o) {d r : List (List UInt8)} {y : List UInt8} (e : l = d ++ y :: r) : w.cell? ⟨b, o + d.length, none⟩ = some (.string (str y)) := by
 have := Row.get (i := d.length) (x := y) h (by rw [e]; simp)
 rwa [Nat.mul_one] at this
set_option maxHeartbeats 3200000 in
theorem index_any (l : List (List UInt8)) (nm : List UInt8) (p : Option Addr) (c N : Nat) (w : World) (hl : RowIn N (StrAt w) 1 l p) :
   Calls Tryz.prog 120 #[.slice p l.length c, .string (str nm)] w fun z w' => (∃ i, z = .returned (.int .i64 i) ∧ IxIs (fun y => y == nm) l i) ∧ w = w' := by
 obtain ⟨b, o, hp, hb, ha⟩ := Row.start hl
 have hm := hl.1
 have HA := Lib.hid ha
 clear hl hb ha
 go_enter Tryz.func120, Tryz.ntmps120
 go_wp2_with fail
 go_loopw [8] (fun i wr => ∃ (d r : List (List UInt8)), i = .int .i64 d.length ∧ d.length + r.length = l.length ∧ Hid (l = d ++ r) ∧ Hid (d.all (fun y => !(y == nm)) = true) ∧ wr = w) (fun i _ => l.length - (intOf i).toNat)
 case atStart => exact ⟨[], l, rfl, by simp, Lib.hid rfl, Lib.hid rfl, rfl⟩
 case round =>
   obtain ⟨d, r, rfl, hd, hE, hF, rfl⟩ := hrel
   cases r with
   | nil =>
     simp only [List.length_nil] at hd
     have hge : ¬ d.length < l.length := by omega
     have HR := Lib.hid (show IxIs (fun y => y == nm) l (-1) from .inr ⟨rfl, by rw [hE.out, List.append_nil]; exact hF.out⟩)
     go_wp2_with fail
     go_ret
     exact ⟨⟨_, rfl, HR.out⟩, rfl⟩
   | cons y r =>
     simp only [List.length_cons] at hd
     have hlt : d.length < l.length := by omega
     rcases hp with h0 | rfl
     · omega
     have d0 := str_get HA.out hE.out
     have e1 := str_eqb nm y
     have HY := Lib.hid (show (nm == y) = true → IxIs (fun y => y == nm) l (d.length : Int) from fun h => .inl ⟨d.length, y, d, r, rfl, hE.out, rfl, by have := beq_iff_eq.1 h; simp [this], hF.out⟩)
     have HN' := Lib.hid (show (nm == y) = false → (d ++ [y]).all (fun y => !(y == nm)) = true from fun h => by rw [List.all_append, hF.out]; simp; intro e; rw [e] at h; simp at h)
     generalize (nm == y) = t at e1 HY HN'
     cases t with
     | true =>
       have HR1 := Lib.hid (HY.out rfl)
       clear HY HN'
       go_wp2_with fail
       go_ret
       exact ⟨⟨_, rfl, HR1.out⟩, rfl⟩
     | false =>
       have HR1 := Lib.hid (HN'.out rfl)
       clear HY HN'
       go_wp2_with fail
       go_roundw
       case rel => exact ⟨d ++ [y], r, by rw [List.length_append]; go_num, by simp; omega, Lib.hid (by rw [hE.out]; simp), HR1, trivial⟩
       case measure => simp [intOf]; omega
theorem contains_any (l : List (List UInt8)) (nm : List UInt8) (p : Option Addr) (c N : Nat) (w : World) (hl : RowIn N (StrAt w) 1 l p) :
   Calls Tryz.prog 91 #[.slice p l.length c, .string (str nm)] w fun z w' => z = .returned (.bool (l.any (fun y => y == nm))) ∧ w = w' := by
 have HC := Lib.hid (index_any l nm p c N w hl)
 clear hl
 go_enter Tryz.func91, Tryz.ntmps91
 go_wp2_with fail
 refine HC.out.mono ?_
 rintro z w1 ⟨⟨i, rfl, hi⟩, rfl⟩
 have HI := Lib.hid hi.any
 clear hi
 go_wp2_with fail
 go_ret
 exact ⟨ret_bool HI.out, rfl⟩
/- What is asked of a loop. -/
open Go.RowKit

def loopA (t : Plc) (y : St) : Nat := ask (!t.ar.any (fun z => z == y.name)) 2
def loopB (y : St) : Nat := ask (decide ((y.low : Int) ≤ (y.high : Int)) && decide ((y.high : Int) ≤ 65536)) 2
def loopC (fn : Fnc) (y : St) : Nat := ask (!fn.rets.any (fun z => z == y.name)) 2
def loopD (fn : Fnc) (y : St) : Nat := ask (!fn.params.any (named y.name)) 2
def loopR (x : Prg) (fn : Fnc) (t : Plc) (y : St) : Nat := seq (wordR x fn y.name) (seq (loopA t y) (seq (loopB y) (seq (loopC fn y) (loopD fn y))))
set_option maxRecDepth 100000 in
set_option maxHeartbeats 6400000 in
theorem loop_any (x : Prg) (s : PrgP) (fn : Fnc) (f : List UInt8 → Nat) (t : Plc) (y : St) (b o N : Nat) (w : World) (h : PlOk w N x s fn f t) (hy : y.At w N b o) (hb : b < N) :
   Calls Tryz.prog 106 #[t.v, .pointer (some ⟨b, o, none⟩)] w (Chk (loopR x fn t y) w) := by
 obtain ⟨W0, hW0, k0, k1, hB0, hz0⟩ := two_alloc w t.obj (.cells #[.pointer (some ⟨b, o, none⟩)] 140)
 have h0 := h.later hB0
 have hbN : b < w.heap.size := Nat.lt_of_lt_of_le hb h.hN
 obtain ⟨sy, hcy, _⟩ := hy.open
 obtain ⟨b', o', hq, hb', ha'⟩ := Row.start h.ok.2
 have hil : t.fi < x.fns.length := (List.getElem?_eq_some_iff.1 h.fi).1
 obtain ⟨⟨pp, pv, pr, pbb, cp, cv, cr, cb⟩, e0, e1, e2, e3, e4, hok⟩ := Fnc.At.all (Row.get ha' h.fi)
 have hbw : b' < w.heap.size := by have := h.hN; omega
 have hqs : s.q = some ⟨b', o', none⟩ := by
   rcases hq with h0 | h0
   · omega
   · exact h0
 have HU := Lib.hid (fun (W : World) (hB : Below W0.heap.size W0 W) => show Below w.heap.size w W from hB0.trans (hB.mono (by omega)))
 have HS := Lib.hid (fun (W : World) (hB : Below W0.heap.size W0 W) => show W.cell? ⟨w.heap.size + 1, 0, none⟩ = some (.pointer (some ⟨b, o, none⟩)) ∧ W.cell? ⟨b, o + 1, none⟩ = some (.string (str y.name)) ∧ W.cell? ⟨b, o + 12, none⟩ = some (.int .u64 (y.low : Int)) ∧ W.cell? ⟨b, o + 13, none⟩ = some (.int .u64 (y.high : Int)) from
   ⟨cell_blk ((hB.block _ (lt_blk k1)).trans k1) rfl, ((HU.out W hB).cell (p := ⟨b, o + 1, none⟩) hbN).trans (hcy 1 _ rfl), ((HU.out W hB).cell (p := ⟨b, o + 12, none⟩) hbN).trans (hcy 12 _ rfl), ((HU.out W hB).cell (p := ⟨b, o + 13, none⟩) hbN).trans (hcy 13 _ rfl)⟩)
 have HP := Lib.hid (fun (W : World) (hB : Below W0.heap.size W0 W) => Plc.cells (t := t) ((hB.block _ (lt_blk k0)).trans k0))
 have HQ := Lib.hid (fun (W : World) (hB : Below W0.heap.size W0 W) => show W.cell? ⟨t.pb, 0, none⟩ = some (.slice s.p x.regs.length s.c) ∧ W.cell? ⟨t.pb, 1, none⟩ = some (.slice (some ⟨b', o', none⟩) x.fns.length s.d) ∧ W.cell? ⟨b', o' + t.fi * 5 + 1, none⟩ = some (.slice pp fn.params.length cp) ∧ W.cell? ⟨b', o' + t.fi * 5 + 3, none⟩ = some (.slice pr fn.rets.length cr) from
   ⟨cell_blk (h0.later hB).pb rfl, by rw [← hqs]; exact cell_blk (h0.later hB).pb rfl, ((HU.out W hB).cell (p := ⟨b', _, none⟩) hbw).trans e1, ((HU.out W hB).cell (p := ⟨b', _, none⟩) hbw).trans e3⟩)
 have HWd := Lib.hid (fun (W : World) (hB : Below W0.heap.size W0 W) => word_any x s fn f t y.name N W (h0.later hB))
 have HAr := Lib.hid (fun (W : World) (hB : Below W0.heap.size W0 W) => contains_any t.ar y.name t.ap t.ac _ W (h0.later hB).ar)
 have HRt := Lib.hid (fun (W : World) (hB : Below W0.heap.size W0 W) => contains_any fn.rets y.name pr cr N W (hok.2.2.1.2.imp (Nat.le_refl _) (StrAt.later ((HU.out W hB).mono h.hN))))
 have HPr := Lib.hid (fun (W : World) (hB : Below W0.heap.size W0 W) => anyLoop_any fn.params pp cp N y.name (w.heap.size + 1) b o W (hok.1.imp (Nat.le_refl _) (Vr.At.later ((HU.out W hB).mono h.hN))) (h0.later hB).hN ⟨(hB.block _ (lt_blk k1)).trans k1, (HS.out W hB).2.1, by have := hB.size; omega⟩)
 have HW0 := Lib.hid hW0
 have HNo := Lib.hid (fun (w' : World) (e : Nat) (he : loopR x fn t y = e) (h0 : e ≠ 0) (hB : Below W0.heap.size W0 w') => show Chk (loopR x fn t y) w (Pn (e : Int)) w' from Chk.no' he h0 (HU.out w' hB))
 have HOK := Lib.hid (fun (w' : World) (he : loopR x fn t y = 0) (hB : Below W0.heap.size W0 w') => show Chk (loopR x fn t y) w (.returned (.tuple #[])) w' from .ok he (HU.out w' hB))
 have hfl : (t.fi : Int) < (x.fns.length : Int) := by omega
 obtain ⟨c0, c1, c2, c3, c4⟩ := HP.out _ (Below.refl _ _)
 obtain ⟨s0, s1, s2, s3⟩ := HS.out _ (Below.refl _ _)
 have HPL := Lib.hid (show w.heap.size < W0.heap.size ∧ w.heap.size + 1 < W0.heap.size ∧ b < W0.heap.size from ⟨by omega, by omega, by omega⟩)
 unfold Plc.obj at HW0
 unfold Plc.v at HWd ⊢
 unfold Pn at HNo
 clear h0 hW0 k0 k1 hB0 hz0 h hy hb hcy hq hb' ha' e0 e1 e2 e3 e4 hok hqs hbN hbw
 go_enter Tryz.func106, Tryz.ntmps106
 go_upto_region 1 with fail
 rw [HW0.out]
 clear HW0
 go_still_tail 5, (by kernel_rfl)
 change wpList _ _ _ _ _ (World.drew _)
 go_wp2_with fail
 refine (HWd.out _ (Below.refl _ _).drew).mono ?_
 intro z w1 hc
 rcases hc with ⟨r1, hB1⟩ | ⟨r1, hB1⟩
 rotate_left
 · have HR := Lib.hid (HNo.out w1 _ (seq_no r1) r1 ((Below.refl _ _).drew.trans hB1))
   unfold Pn
   clear hB1 r1 c0 c1 c2 c3 c4 s0 s1 s2 s3
   go_wp2_with fail
   exact ⟨rfl, HR.out⟩
 have R1 := Lib.hid r1
 have HB1 := Lib.hid (show Below W0.heap.size W0 w1 from (Below.refl _ _).drew.trans hB1)
 clear hB1 r1 c0 c1 c2 c3 c4 s0 s1 s2 s3
 obtain ⟨c0, c1, c2, c3, c4⟩ := HP.out _ HB1.out
 obtain ⟨s0, s1, s2, s3⟩ := HS.out _ HB1.out
 go_wp2_with fail
 go_still_tail 6, (by kernel_rfl)
 change wpList _ _ _ _ _ (World.drew _)
 go_wp2_with fail
 refine (HAr.out _ HB1.out.drew).mono ?_
 rintro z w2 ⟨rfl, rfl⟩
 obtain ⟨q, hq⟩ : ∃ q, t.ar.any (fun z => z == y.name) = q := ⟨_, rfl⟩
 rw [hq]
 cases q with
 | true =>
   have HR := Lib.hid (HNo.out _ 2 (by unfold loopR loopA; rw [seq_ok R1.out, hq]; rfl) (by decide) HB1.out.drew)
   clear hq
   go_wp2_with (go_at_call 79; refine (must_no 2 _).mono ?_; rintro e w' ⟨rfl, hw⟩; subst hw; unfold Pn)
   exact ⟨rfl, HR.out⟩
 | false =>
   have R2 := Lib.hid (show loopA t y = 0 by unfold loopA; rw [hq]; rfl)
   clear hq c0 c1 c2 c3 c4 s0 s1 s2 s3
   have HB2 := Lib.hid HB1.out.drew
   go_wp2_with (go_at_call 79; refine (must_yes 2 _).mono ?_; rintro e w' ⟨rfl, hw⟩; subst hw)
   generalize w1.drew = w2 at HB2 ⊢
   obtain ⟨c0, c1, c2, c3, c4⟩ := HP.out _ HB2.out
   obtain ⟨s0, s1, s2, s3⟩ := HS.out _ HB2.out
   obtain ⟨p0, p1, p2, p3⟩ := HQ.out _ HB2.out
   have HT := Lib.hid (show (decide ((y.low : Int) ≤ (y.high : Int)) && decide ((y.high : Int) ≤ 65536)) = (decide ((y.low : Int) ≤ (y.high : Int)) && decide ((y.high : Int) ≤ 65536)) from rfl)
   obtain ⟨t1, ht1⟩ : ∃ t1, decide ((y.low : Int) ≤ (y.high : Int)) = t1 := ⟨_, rfl⟩
   obtain ⟨t2, ht2⟩ : ∃ t2, decide ((y.high : Int) ≤ 65536) = t2 := ⟨_, rfl⟩
   have hn1 : decide (y.low ≤ y.high) = t1 := by rw [← ht1, Bool.eq_iff_iff]; simp
   have hn2 : decide (y.high ≤ 65536) = t2 := by rw [← ht2, Bool.eq_iff_iff]; simp; omega
   have HLo := Lib.hid (show loopB y = Proofs.YtihmibggonffdaaGreat.ask (t1 && t2) 2 by unfold loopB; rw [ht1, ht2])
   have HS3 : Below w2.heap.size w2 w2.drew := (Below.refl _ _).drew
   have HL2 := Lib.hid (show w.heap.size + 1 < w2.heap.size ∧ b < w2.heap.size from ⟨Nat.lt_of_lt_of_le HPL.out.2.1 HB2.out.size, Nat.lt_of_lt_of_le HPL.out.2.2 HB2.out.size⟩)
   go_wp2_with fail
   cases t1
   · refine wp_region_held_drew (S := fun W => W.cell? ⟨w.heap.size + 1, 0, none⟩ = some (.pointer (some ⟨b, o, none⟩)) ∧ W.cell? ⟨b, o + 12, none⟩ = some (.int .u64 (y.low : Int)) ∧ W.cell? ⟨b, o + 13, none⟩ = some (.int .u64 (y.high : Int))) (by kernel_rfl) ?_ (fun hHeld => ?_)
     · exact ⟨s0, s2, s3⟩
     refine tq 0 ?_
     refine tq 1 ?_
     refine tq 2 ?_
     refine tq 3 ?_
     refine tq 4 ?_
     refine tq 5 ?_
     refine tq 6 ?_
     refine tq 7 ?_
     refine tq 8 ?_
     refine tq 9 ?_
     refine sq 10 ?_
     refine sq 11 ?_
     refine sq 12 ?_
     refine sq 13 ?_
     refine sq 14 ?_
     refine tq 15 ?_
     have HR := Lib.hid (HNo.out _ 2 (by unfold loopR; rw [seq_ok R1.out, seq_ok R2.out, HLo.out]; rfl) (by decide) HB2.out.drew)
     refine wpAnyH_ready (rs := [16]) (by kernel_rfl) (by simp) ?_
     refine rdy rfl (fun K hK => ?_) AllReadyH.nil
     go_simp
     refine (must_no 2 _).mono ?_
     rintro e w' ⟨rfl, rfl⟩
     unfold Pn
     exact ⟨rfl, HR.out⟩
   cases t2
   · refine wp_region_held_drew (S := fun W => W.cell? ⟨w.heap.size + 1, 0, none⟩ = some (.pointer (some ⟨b, o, none⟩)) ∧ W.cell? ⟨b, o + 12, none⟩ = some (.int .u64 (y.low : Int)) ∧ W.cell? ⟨b, o + 13, none⟩ = some (.int .u64 (y.high : Int))) (by kernel_rfl) ?_ (fun hHeld => ?_)
     · exact ⟨s0, s2, s3⟩
     refine tq 0 ?_
     refine tq 1 ?_
     refine tq 2 ?_
     refine tq 3 ?_
     refine tq 4 ?_
     refine tq 5 ?_
     refine tq 6 ?_
     refine tq 7 ?_
     refine tq 8 ?_
     refine tq 9 ?_
     refine tq 10 ?_
     refine tq 11 ?_
     refine tq 12 ?_
     refine tq 13 ?_
     refine tq 14 ?_
     refine tq 15 ?_
     have HR := Lib.hid (HNo.out _ 2 (by unfold loopR; rw [seq_ok R1.out, seq_ok R2.out, HLo.out]; rfl) (by decide) HB2.out.drew)
     refine wpAnyH_ready (rs := [16]) (by kernel_rfl) (by simp) ?_
     refine rdy rfl (fun K hK => ?_) AllReadyH.nil
     go_simp
     refine (must_no 2 _).mono ?_
     rintro e w' ⟨rfl, rfl⟩
     unfold Pn
     exact ⟨rfl, HR.out⟩
   refine wp_region_held_drew (S := fun W => W.cell? ⟨w.heap.size + 1, 0, none⟩ = some (.pointer (some ⟨b, o, none⟩)) ∧ W.cell? ⟨b, o + 12, none⟩ = some (.int .u64 (y.low : Int)) ∧ W.cell? ⟨b, o + 13, none⟩ = some (.int .u64 (y.high : Int))) (by kernel_rfl) ?_ (fun hHeld => ?_)
   · exact ⟨s0, s2, s3⟩
   refine tq 0 ?_
   refine tq 1 ?_
   refine tq 2 ?_
   refine tq 3 ?_
   refine tq 4 ?_
   refine tq 5 ?_
   refine tq 6 ?_
   refine tq 7 ?_
   refine tq 8 ?_
   refine tq 9 ?_
   refine tq 10 ?_
   refine tq 11 ?_
   refine tq 12 ?_
   refine tq 13 ?_
   refine tq 14 ?_
   refine tq 15 ?_
   refine wpAnyH_ready (rs := [16]) (by kernel_rfl) (by simp) ?_
   refine rdy rfl (fun K hK => ?_) AllReadyH.nil
   go_simp
   refine (must_yes 2 _).mono ?_
   rintro e w' ⟨rfl, hw⟩
   subst hw
   refine hK.out _ _ ?_ (fun hHeld => ?_)
   · exact ⟨s0, s2, s3⟩
   clear hK K
   try simp only [Act.put, List.setIfInBounds_toArray, List.set_cons_zero, List.set_cons_succ]
   refine wpAnyH_done (by kernel_rfl) ?_ _
   have R3 := Lib.hid (show loopB y = 0 from HLo.out)
   clear HLo HT ht1 ht2 hn1 hn2
   go_wp2_with fail
   go_quiet (fail)
   go_wp2_with fail
   have HB3 := Lib.hid (below_drewN HB2.out.drew nq)
   generalize w2.drew.drewN nq = w3 at HB3 ⊢
   clear c0 c1 c2 c3 c4 s0 s1 s2 s3 p0 p1 p2 p3
   obtain ⟨s0, s1, s2, s3⟩ := HS.out _ HB3.out
   obtain ⟨p0, p1, p2, p3⟩ := HQ.out _ HB3.out
   go_still_tail 8, (by kernel_rfl)
   change wpList _ _ _ _ _ (World.drew _)
   go_wp2_with fail
   refine (HRt.out _ HB3.out.drew).mono ?_
   rintro z w4 ⟨rfl, rfl⟩
   obtain ⟨q, hq⟩ : ∃ q, fn.rets.any (fun z => z == y.name) = q := ⟨_, rfl⟩
   rw [hq]
   cases q with
   | true =>
     have HR := Lib.hid (HNo.out _ 2 (by unfold loopR loopC; rw [seq_ok R1.out, seq_ok R2.out, seq_ok R3.out, hq]; rfl) (by decide) HB3.out.drew)
     clear hq
     go_wp2_with (go_at_call 79; refine (must_no 2 _).mono ?_; rintro e w' ⟨rfl, hw⟩; subst hw; unfold Pn)
     exact ⟨rfl, HR.out⟩
   | false =>
     have R4 := Lib.hid (show loopC fn y = 0 by unfold loopC; rw [hq]; rfl)
     clear hq s0 s1 s2 s3 p0 p1 p2 p3
     have HB4 := Lib.hid HB3.out.drew
     obtain ⟨p0, p1, p2, p3⟩ := HQ.out _ HB4.out
     go_wp2_with (go_at_call 79; refine (must_yes 2 _).mono ?_; rintro e w' ⟨rfl, hw⟩; subst hw)
     refine (HPr.out _ HB4.out).mono ?_
     rintro z w6 ⟨rfl, hB6⟩
     have HB6 := Lib.hid (HB4.out.trans (hB6.mono HB4.out.size))
     clear hB6 p0 p1 p2 p3
     obtain ⟨q, hq⟩ : ∃ q, fn.params.any (named y.name) = q := ⟨_, rfl⟩
     rw [hq]
     cases q with
     | true =>
       have HR := Lib.hid (HNo.out _ 2 (by unfold loopR loopD; rw [seq_ok R1.out, seq_ok R2.out, seq_ok R3.out, seq_ok R4.out, hq]; rfl) (by decide) HB6.out)
       clear hq
       go_wp2_with (go_at_call 79; refine (must_no 2 _).mono ?_; rintro e w' ⟨rfl, hw⟩; subst hw; unfold Pn)
       exact ⟨rfl, HR.out⟩
     | false =>
       have HR := Lib.hid (HOK.out _ (by unfold loopR loopD; rw [seq_ok R1.out, seq_ok R2.out, seq_ok R3.out, seq_ok R4.out, hq]; rfl) HB6.out)
       clear hq
       go_wp2_with (go_at_call 79; refine (must_yes 2 _).mono ?_; rintro e w' ⟨rfl, hw⟩; subst hw)
       go_end0
       exact HR.out
end Go.Proofs.YtihmibggonffdaaGreat
