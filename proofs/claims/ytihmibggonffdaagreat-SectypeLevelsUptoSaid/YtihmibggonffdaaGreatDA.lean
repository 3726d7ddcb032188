/- The document's: why a call may not be. -/
import Derived.Test.YtihmibggonffdaaGreatD9
import Derived.Test.YtihmibggonffdaaGreatF1
import Derived.Test.YtihmibggonffdaaGreatK1
namespace Go.Proofs.YtihmibggonffdaaGreat
open Go.RowKit

theorem seq_assoc (a b c : Nat) : seq (seq a b) c = seq a (seq b c) := by
 unfold seq
 by_cases ha : a = 0
 · simp [ha]
 · simp [ha]
theorem RowIn.pre {α : Type} {A : α → Nat → Nat → Prop} {N k : Nat} {d r l : List α} {p : Option Addr} (h : RowIn N A k l p) (e : l = d ++ r) : RowIn N A k d p := by
 subst e
 have h1 := h.1
 rw [List.length_append] at h1
 refine ⟨by omega, ?_⟩
 rcases h.2 with h0 | ⟨b, o, hp, hb, ha⟩
 · rw [List.length_append] at h0; exact .inl (by omega)
 · exact .inr ⟨b, o, hp, hb, Row.pre d r o ha⟩
def rcallR (x : Prg) (fn : Fnc) (f : List UInt8 → Nat) (fi : Nat) (y : St) (deep : Nat) : Nat := seq (callR x fn f (pl0 fi []) y) (y.args.chk x fn deep)
theorem rcall_none {x : Prg} {fn : Fnc} {f : List UInt8 → Nat} {fi : Nat} {y : St} {deep : Nat} (h : calleeOf x.fns y.name 0 = none) : rcallR x fn f fi y deep = 8 := by
 unfold rcallR callR; rw [h]; rfl
theorem rcall_some {x : Prg} {fn : Fnc} {f : List UInt8 → Nat} {fi k : Nat} {g : Fnc} {y : St} {deep : Nat} (h : calleeOf x.fns y.name 0 = some (k, g)) :
   rcallR x fn f fi y deep = seq (ask (decide (k < fi)) 9) (seq (namesR x fn f [] y.names) (seq (fitR y g) (y.args.chk x fn deep))) := by
 unfold rcallR callR; rw [h]; simp only [seq_assoc]; rfl
theorem fit_bne (y : St) (g : Fnc) : fitR y g = ask (!((((y.args.len : Nat) : Int) != ((g.params.length : Nat) : Int)) || (((y.names.length : Nat) : Int) != ((g.rets.length : Nat) : Int)))) 2 := by
 unfold fitR
 congr 1
 rw [Bool.eq_iff_iff]
 simp [bne]
 omega
def CtsIs (cts : List (List UInt8)) (f : List UInt8 → Nat) : Prop := ∀ nm, cts.any (fun y => y == nm) = !decide (f nm = 0)
theorem adds_any : ∀ (l : List (List UInt8)) (f : List UInt8 → Nat) (nm : List UInt8), (!decide (adds f l nm = 0)) = (!decide (f nm = 0) || l.any (fun y => y == nm))
 | [], f, nm => by rw [adds, List.any_nil, Bool.or_false]
 | s :: l, f, nm => by
   rw [adds, adds_any l (add f s) nm, List.any_cons]
   by_cases h : nm = s
   · subst h
     have : add f nm nm = f nm + 1 := by unfold add; rw [if_pos rfl]
     rw [this]; simp
   · have h1 : add f s nm = f nm := by unfold add; rw [if_neg h]; rfl
     have h2 : (s == nm) = false := by rw [beq_eq_false_iff_ne]; exact fun e => h e.symm
     rw [h1, h2, Bool.false_or]
theorem cts_is (l : List (List UInt8)) : CtsIs l (adds nz l) := fun nm => by
 rw [adds_any]; simp [nz]
set_option maxRecDepth 100000 in
set_option maxHeartbeats 12800000 in
theorem rcall_any (x : Prg) (s : PrgP) (fi : Nat) (fn : Fnc) (f : List UInt8 → Nat) (y : St) (sp : StP) (deep : Nat) (cts : List (List UInt8)) (pc : Option Addr) (cc N : Nat) (w : World) (h : x.Ok w N s.p s.q) (hN : N ≤ w.heap.size) (hi : x.fns[fi]? = some fn) (hbig : fn.params.length + fn.vars.length ≤ 4000000)
   (hy : y.Ok w N sp) (hdeep : deep ≤ 65) (hcts : RowIn w.heap.size (StrAt w) 1 cts pc) (hcf : CtsIs cts f) :
   Calls Tryz.prog 119 #[x.v s, .int .i64 (fi : Int), y.val sp, .int .i64 (deep : Int), .slice pc cts.length cc] w fun z w' => z = .returned (.int .i64 (rcallR x fn f fi y deep : Nat)) ∧ Below w.heap.size w w' := by
 obtain ⟨pp, pq, c, d⟩ := s
 obtain ⟨pn, pe, pa, pg, pb, pl, cn, ce, ca, cg, cb, cl⟩ := sp
 obtain ⟨W0, hW0, k0, k1, hB0, hz0⟩ := two_alloc w (.cells #[.slice pp x.regs.length c, .slice pq x.fns.length d] 25) (.cells (y.cells ⟨pn, pe, pa, pg, pb, pl, cn, ce, ca, cg, cb, cl⟩) 45)
 obtain ⟨b', o', hq, hb', ha'⟩ := Row.start h.2
 obtain ⟨b2, o2, hq2, hb2, ha2⟩ := Row.start hy.1.2
 have hcn := hy.1.1
 have hmn := hy.1.2.1
 have hmf := h.2.1
 have hma := hy.2.2.2.1.1
 have HU := Lib.hid (fun (W : World) (hB : Below W0.heap.size W0 W) => show Below w.heap.size w W from hB0.trans (hB.mono (by omega)))
 have HS := Lib.hid (fun (W : World) (hB : Below W0.heap.size W0 W) => show W.cell? ⟨w.heap.size, 0, none⟩ = some (.slice pp x.regs.length c) ∧ W.cell? ⟨w.heap.size, 1, none⟩ = some (.slice pq x.fns.length d) ∧ W.cell? ⟨w.heap.size + 1, 1, none⟩ = some (.string (str y.name)) ∧ W.cell? ⟨w.heap.size + 1, 2, none⟩ = some (.slice pn y.names.length cn) ∧ W.cell? ⟨w.heap.size + 1, 11, none⟩ = some (.slice pg y.args.len cg) from
   ⟨cell_blk ((hB.block _ (lt_blk k0)).trans k0) rfl, cell_blk ((hB.block _ (lt_blk k0)).trans k0) rfl, cell_blk ((hB.block _ (lt_blk k1)).trans k1) rfl, cell_blk ((hB.block _ (lt_blk k1)).trans k1) rfl, cell_blk ((hB.block _ (lt_blk k1)).trans k1) rfl⟩)
 have HX := Lib.hid (fun (W : World) (hB : Below w.heap.size w W) => h.later (hB.mono hN) (Nat.le_refl N))
 have HWd := Lib.hid (fun (nm : List UInt8) (W : World) (hB : Below w.heap.size w W) => rword_any x ⟨pp, pq, c, d⟩ fi fn nm N W (HX.out W hB) (Nat.le_trans hN hB.size) hi hbig)
 have HEx := Lib.hid (fun (e : Ex) (W : World) (q : Option Addr) (cq : Nat) (hB : Below w.heap.size w W) (hok : e.Ok W N q) => rexpr_to _ e (Nat.lt_succ_self _) x ⟨pp, pq, c, d⟩ fi fn deep q cq N W (HX.out W hB) (Nat.le_trans hN hB.size) hi hbig hok hdeep)
 have HHs := Lib.hid (fun (nm : List UInt8) (W : World) (hB : Below w.heap.size w W) => rhas_any cts nm pc cc w.heap.size W (hcts.imp (Nat.le_refl _) (StrAt.later hB)))
 have HPr := Lib.hid (fun (ds r : List (List UInt8)) (nm : List UInt8) (W : World) (hB : Below w.heap.size w W) (hE : y.names = ds ++ r) => rhas_any ds nm pn cn N W ((hy.1.2.imp (Nat.le_refl N) (StrAt.later (hB.mono hN))).pre hE))
 have HFn := Lib.hid (fun (W : World) (ds r : List Fnc) (g : Fnc) (hB : Below w.heap.size w W) (hE : x.fns = ds ++ g :: r) => show ∃ sg : FncP, pq = some ⟨b', o', none⟩ ∧ W.cell? ⟨b', o' + ds.length * 5, none⟩ = some (.string (str g.name)) ∧ W.cell? ⟨b', o' + ds.length * 5 + 1, none⟩ = some (.slice sg.pp g.params.length sg.cp) ∧ W.cell? ⟨b', o' + ds.length * 5 + 3, none⟩ = some (.slice sg.pr g.rets.length sg.cr) ∧ g.params.length ≤ 140737488355328 ∧ g.rets.length ≤ 140737488355328 from by
   have hlt : ds.length < x.fns.length := by rw [hE]; simp
   obtain ⟨sg, e0, e1, e2, e3, e4, hok⟩ := Fnc.At.all (Row.get (i := ds.length) (x := g) ha' (by rw [hE]; simp))
   have hbw : b' < w.heap.size := by omega
   refine ⟨sg, ?_, (hB.cell (p := ⟨b', _, none⟩) hbw).trans e0, (hB.cell (p := ⟨b', _, none⟩) hbw).trans e1, (hB.cell (p := ⟨b', _, none⟩) hbw).trans e3, hok.1.1, hok.2.2.1.2.1⟩
   rcases hq with h0 | h0
   · omega
   · exact h0)
 have HNm := Lib.hid (fun (W : World) (ds r : List (List UInt8)) (nm : List UInt8) (hB : Below w.heap.size w W) (hE : y.names = ds ++ nm :: r) => show pn = some ⟨b2, o2, none⟩ ∧ W.cell? ⟨b2, o2 + ds.length, none⟩ = some (.string (str nm)) from by
   have hlt : ds.length < y.names.length := by rw [hE]; simp
   refine ⟨by rcases hq2 with h0 | h0; (· omega); (· exact h0), (hB.cell (p := ⟨b2, _, none⟩) (show b2 < w.heap.size by omega)).trans (str_get ha2 hE)⟩)
 obtain ⟨b3, o3, hq3, hb3, ha3⟩ : ∃ b3 o3, (y.args.len = 0 ∨ pg = some ⟨b3, o3, none⟩) ∧ (b3 < N ∨ y.args.len = 0) ∧ y.args.At w N b3 o3 := by
   rcases hy.2.2.2.1.2 with h0 | ⟨b, o, hp, hb, ha⟩
   · exact ⟨0, 0, .inl h0, .inr h0, by cases hxa : y.args with | nil => trivial | cons => rw [hxa] at h0; simp [Exs.len] at h0⟩
   · exact ⟨b, o, .inr hp, .inl hb, ha⟩
 have HA3 := Lib.hid (And.intro ha3 hb3)
 have HB0 := Lib.hid hB0
 have HW0 := Lib.hid hW0
 have HN := Lib.hid hN
 have HCF := Lib.hid hcf
 unfold Prg.v St.val
 unfold Prg.v at HWd HEx
 unfold Ex.val at HEx
 clear hW0 k0 k1 hB0 hz0 h hy hcts hcf hb' ha' hb2 ha2 hb3 ha3 hi hbig hN hq
 obtain ⟨R, hR⟩ : ∃ R, R = rcallR x fn f fi y deep := ⟨_, rfl⟩
 rw [← hR]
 have HR := Lib.hid hR
 clear hR
 go_enter Tryz.func119, Tryz.ntmps119
 go_upto_region 1 with fail
 unfold St.cells at HW0
 unfold St.cells
 rw [HW0.out]
 go_upto_block 0 with fail
 go_cut [11] from 12 to 37 (fun at' wx => ∃ z : Int, at' = .int .i64 z ∧ Hid (IxIs (fnNamed y.name) x.fns z) ∧ Hid (Below W0.heap.size W0 wx))
 case first =>
   go_wp2_with fail
   go_loopw [11, 12] (fun at' i wr => ∃ (ds r : List Fnc) (z : Int), at' = .int .i64 z ∧ i = .int .i64 ds.length ∧ ds.length + r.length = x.fns.length ∧ Hid (x.fns = ds ++ r) ∧ ((z = -1 ∧ Hid (ds.all (fun q => !fnNamed y.name q) = true)) ∨ (0 ≤ z ∧ Hid (IxIs (fnNamed y.name) x.fns z))) ∧ Hid (Below W0.heap.size W0 wr)) (fun _ i _ => x.fns.length - (intOf i).toNat)
   case atStart => exact ⟨[], x.fns, -1, rfl, rfl, by simp, Lib.hid rfl, .inl ⟨rfl, Lib.hid rfl⟩, Lib.hid (Below.refl _ _)⟩
   case round =>
     obtain ⟨ds, r, z, rfl, rfl, hk, hds, hz, hB⟩ := hrel
     obtain ⟨s0, s1, s2, s3, s4⟩ := HS.out _ hB.out
     cases r with
     | nil =>
       simp only [List.length_nil] at hk
       have hge : ¬ ds.length < x.fns.length := by omega
       have HI := Lib.hid (show IxIs (fnNamed y.name) x.fns z by
         rcases hz with ⟨rfl, h2⟩ | ⟨_, h2⟩
         · exact .inr ⟨rfl, by rw [hds.out, List.append_nil]; exact h2.out⟩
         · exact h2.out)
       clear hz
       go_wp2_with fail
       go_meet
       exact ⟨z, rfl, HI, hB⟩
     | cons g r =>
       simp only [List.length_cons] at hk
       have hlt : ds.length < x.fns.length := by omega
       rcases hz with ⟨rfl, h2⟩ | ⟨hz0, h2⟩
       rotate_left
       · have hzn : decide (z < 0) = false := decide_eq_false (by omega)
         go_wp2_with fail
         go_meet
         exact ⟨z, rfl, h2, hB⟩
       obtain ⟨sg, hpq, e0, _⟩ := HFn.out wr ds r g (HU.out _ hB.out) hds.out
       subst hpq
       have hX : Below W0.heap.size W0 wr.drew := hB.out.drew
       have e1 := str_eqb g.name y.name
       have HNx := Lib.hid (show (g.name == y.name) = fnNamed y.name g from rfl)
       have HC := Lib.hid (fun (W : World) (hB : Below w.heap.size w W) => (HFn.out W ds r g hB hds.out))
       have HCe := Lib.hid (show ∀ W, Below W0.heap.size W0 W → W.cell? ⟨b', o' + ds.length * 5, none⟩ = some (.string (str g.name)) from fun W hB => by obtain ⟨_, _, h, _⟩ := HC.out W (HU.out _ hB); exact h)
       clear e0 HC
       generalize (g.name == y.name) = t1 at e1 HNx
       go_upto_region 5 with fail
       clear s0 s1 s2 s3 s4
       cases t1
       · refine wp_region_held_drew (S := fun W => W.cell? ⟨w.heap.size, 1, none⟩ = some (.slice (some ⟨b', o', none⟩) x.fns.length d) ∧ W.cell? ⟨w.heap.size + 1, 1, none⟩ = some (.string (str y.name)) ∧ W.cell? ⟨b', o' + ds.length * 5, none⟩ = some (.string (str g.name))) (by kernel_rfl) ?_ (fun hHeld => ?_)
         · exact ⟨(HS.out _ hX).2.1, (HS.out _ hX).2.2.1, HCe.out _ hX⟩
         refine tq 0 ?_
         refine tq 1 ?_
         refine tq 2 ?_
         refine tq 3 ?_
         refine tq 4 ?_
         refine tq 5 ?_
         refine tq 6 ?_
         refine tq 7 ?_
         refine tk 8 (.bool false) rfl (.inl ⟨by rfl, ?_⟩) ?_
         · (intro w hSw; (try dsimp only at hSw); go_simp)
         try simp only [Act.put, List.setIfInBounds_toArray, List.set_cons_zero, List.set_cons_succ]
         refine wpAnyH_done (by kernel_rfl) ?_ _
         have HX2 := Lib.hid hX
         have HA := Lib.hid (all_snoc (f := fnNamed y.name) h2.out HNx.out.symm)
         clear hX
         go_wp2_with fail
         go_roundw
         case rel => exact ⟨ds ++ [g], r, -1, rfl, by rw [List.length_append]; go_num, by simp; omega, Lib.hid (by rw [hds.out]; simp), .inl ⟨rfl, HA⟩, HX2⟩
         case measure => simp [intOf]; omega
       · refine wp_region_held_drew (S := fun W => W.cell? ⟨w.heap.size, 1, none⟩ = some (.slice (some ⟨b', o', none⟩) x.fns.length d) ∧ W.cell? ⟨w.heap.size + 1, 1, none⟩ = some (.string (str y.name)) ∧ W.cell? ⟨b', o' + ds.length * 5, none⟩ = some (.string (str g.name))) (by kernel_rfl) ?_ (fun hHeld => ?_)
         · exact ⟨(HS.out _ hX).2.1, (HS.out _ hX).2.2.1, HCe.out _ hX⟩
         refine tq 0 ?_
         refine tq 1 ?_
         refine tq 2 ?_
         refine tq 3 ?_
         refine tq 4 ?_
         refine tq 5 ?_
         refine tq 6 ?_
         refine tq 7 ?_
         refine tk 8 (.bool true) rfl (.inl ⟨by rfl, ?_⟩) ?_
         · (intro w hSw; (try dsimp only at hSw); go_simp)
         try simp only [Act.put, List.setIfInBounds_toArray, List.set_cons_zero, List.set_cons_succ]
         refine wpAnyH_done (by kernel_rfl) ?_ _
         have HX2 := Lib.hid hX
         have HI := Lib.hid (show IxIs (fnNamed y.name) x.fns (ds.length : Int) from .inl ⟨ds.length, g, ds, r, rfl, hds.out, rfl, HNx.out.symm, h2.out⟩)
         clear hX
         go_wp2_with fail
         go_roundw
         case rel => exact ⟨ds ++ [g], r, (ds.length : Int), rfl, by rw [List.length_append]; go_num, by simp; omega, Lib.hid (by rw [hds.out]; simp), .inr ⟨by omega, HI⟩, HX2⟩
         case measure => simp [intOf]; omega
 case rest =>
 obtain ⟨z, rfl, hI, hBc⟩ := hcut
 rcases hI.out with ⟨k, g, ds, r, rfl, hds, hdk, hg, hd⟩ | ⟨rfl, hd⟩
 rotate_left
 · have HV := Lib.hid (show 8 = R by rw [HR.out, rcall_none (callee_none x.fns 0 hd)])
   have HE := Lib.hid (HU.out _ hBc.out)
   clear hd hI
   go_wp2_with fail
   go_ret
   exact ⟨by rw [← HV.out]; rfl, HE.out⟩
 have hcl : calleeOf x.fns y.name 0 = some (k, g) := by rw [hds, callee_some hg ds 0 hd]; simp [hdk]
 have HR1 := Lib.hid (show R = seq (ask (decide (k < fi)) 9) (seq (namesR x fn f [] y.names) (seq (fitR y g) (y.args.chk x fn deep))) by rw [HR.out]; exact rcall_some hcl)
 have HDs := Lib.hid hds
 have HDk := Lib.hid hdk
 clear hcl hds hdk hg hd hI HR
 by_cases hki : k < fi
 rotate_left
 · have HV := Lib.hid (show 9 = R by rw [HR1.out, show decide (k < fi) = false from decide_eq_false hki]; rfl)
   have HE := Lib.hid (HU.out _ hBc.out)
   go_wp2_with fail
   go_ret
   exact ⟨by rw [← HV.out]; rfl, HE.out⟩
 have HR2 := Lib.hid (show R = seq (namesR x fn f [] y.names) (seq (fitR y g) (y.args.chk x fn deep)) by rw [HR1.out, show decide (k < fi) = true from decide_eq_true hki]; rfl)
 clear HR1
 go_wp2_with fail
 go_loopw [13, 14] (fun i xx wr => ∃ (ns rs : List (List UInt8)), i = .int .i64 ns.length ∧ ns.length + rs.length = y.names.length ∧ Hid (y.names = ns ++ rs) ∧ Hid (R = seq (namesR x fn f ns rs) (seq (fitR y g) (y.args.chk x fn deep))) ∧ Hid (Below W0.heap.size W0 wr)) (fun i _ _ => y.names.length - (intOf i).toNat)
 case atStart => exact ⟨[], y.names, rfl, by simp, Lib.hid rfl, HR2, hBc⟩
 case round =>
   obtain ⟨ns, rs, rfl, hk2, hns, hE2, hB2⟩ := hrel
   obtain ⟨s0, s1, s2, s3, s4⟩ := HS.out _ hB2.out
   cases rs with
   | cons nm rs =>
     simp only [List.length_cons] at hk2
     have hlt2 : ns.length < y.names.length := by omega
     obtain ⟨hpn, _⟩ := HNm.out wr ns rs nm (HU.out _ hB2.out) hns.out
     subst hpn
     have HNe := Lib.hid (fun (W : World) (hB : Below w.heap.size w W) => (HNm.out W ns rs nm hB hns.out).2)
     have hX : Below W0.heap.size W0 wr.drew := hB2.out.drew
     have HCw := Lib.hid (HWd.out nm _ (HU.out _ hX))
     have HE3 := Lib.hid (show R = seq (wordR x fn nm) (seq (ask (decide (f nm = 0)) 2) (seq (ask (!ns.any (fun z => z == nm)) 2) (seq (namesR x fn f (ns ++ [nm]) rs) (seq (fitR y g) (y.args.chk x fn deep))))) by rw [hE2.out, namesR]; unfold setR; simp only [seq_assoc])
     generalize wordR x fn nm = v1 at HCw HE3
     have hsl : ns.length ≤ cn := by omega
     clear hE2
     go_upto_region 14 with fail
     clear s0 s1 s2 s3 s4
     refine wp_region_held_drew (S := fun W => W.cell? ⟨w.heap.size, 0, none⟩ = some (.slice pp x.regs.length c) ∧ W.cell? ⟨w.heap.size, 1, none⟩ = some (.slice pq x.fns.length d) ∧ W.cell? ⟨w.heap.size + 1, 2, none⟩ = some (.slice (some ⟨b2, o2, none⟩) y.names.length cn) ∧ W.cell? ⟨b2, o2 + ns.length, none⟩ = some (.string (str nm))) (by kernel_rfl) ?_ (fun hHeld => ?_)
     · exact ⟨(HS.out _ hX).1, (HS.out _ hX).2.1, (HS.out _ hX).2.2.2.1, HNe.out _ (HU.out _ hX)⟩
     refine tq 0 ?_
     refine tq 1 ?_
     refine tq 2 ?_
     refine tq 3 ?_
     refine tq 4 ?_
     refine tq 5 ?_
     refine tq 6 ?_
     refine wpAnyH_ready (rs := [7]) (by kernel_rfl) (by simp) ?_
     refine rdy rfl (fun K hK => ?_) AllReadyH.nil
     go_simp
     refine HCw.out.mono ?_
     rintro z w5 ⟨rfl, hB5⟩
     replace hX := hX.trans (hB5.mono hX.size)
     clear hB5
     refine hK.out _ _ ?_ (fun hHeld => ?_)
     · exact ⟨(HS.out _ hX).1, (HS.out _ hX).2.1, (HS.out _ hX).2.2.2.1, HNe.out _ (HU.out _ hX)⟩
     clear hK K
     try simp only [Act.put, List.setIfInBounds_toArray, List.set_cons_zero, List.set_cons_succ]
     refine tq 8 ?_
     refine wpAnyH_done (by kernel_rfl) ?_ _
     have HX5 := Lib.hid hX
     clear hX
     by_cases hv1 : v1 = 0
     rotate_left
     · have hv1i : ((v1 : Int) != 0) = true := by simp [bne]; omega
       have HV := Lib.hid (show v1 = R by rw [HE3.out, seq_no hv1])
       have HE := Lib.hid (HU.out _ HX5.out)
       go_wp2_with fail
       go_ret
       exact ⟨by rw [← HV.out]; rfl, HE.out⟩
     subst hv1
     have HE4 := Lib.hid (show R = seq (ask (decide (f nm = 0)) 2) (seq (ask (!ns.any (fun z => z == nm)) 2) (seq (namesR x fn f (ns ++ [nm]) rs) (seq (fitR y g) (y.args.chk x fn deep)))) by rw [HE3.out]; rfl)
     have HCc := Lib.hid (HCF.out nm)
     obtain ⟨q1, hq1⟩ : ∃ q1, q1 = cts.any (fun y => y == nm) := ⟨_, rfl⟩
     obtain ⟨q2, hq2'⟩ : ∃ q2, q2 = ns.any (fun y => y == nm) := ⟨_, rfl⟩
     rw [← hq1] at HCc
     rw [← hq2'] at HE4
     have hX : Below W0.heap.size W0 w5.drew := HX5.out.drew
     have HC1 := Lib.hid (HHs.out nm _ (HU.out _ hX))
     have HC2 := Lib.hid (HPr.out ns (nm :: rs) nm _ (HU.out _ hX) hns.out)
     rw [← hq1] at HC1
     rw [← hq2'] at HC2
     clear hq1 hq2' HE3 HCw
     obtain ⟨s0, s1, s2, s3, s4⟩ := HS.out _ HX5.out
     go_upto_region 17 with fail
     clear s0 s1 s2 s3 s4
     cases q1
     · refine wp_region_held_drew (S := fun W => W.cell? ⟨w.heap.size + 1, 2, none⟩ = some (.slice (some ⟨b2, o2, none⟩) y.names.length cn) ∧ W.cell? ⟨b2, o2 + ns.length, none⟩ = some (.string (str nm))) (by kernel_rfl) ?_ (fun hHeld => ?_)
       · exact ⟨(HS.out _ hX).2.2.2.1, HNe.out _ (HU.out _ hX)⟩
       refine tq 0 ?_
       refine tq 1 ?_
       refine tq 2 ?_
       refine tq 3 ?_
       refine tq 4 ?_
       refine tq 5 ?_
       refine wpAnyH_ready (rs := [6]) (by kernel_rfl) (by simp) ?_
       refine rdy rfl (fun K hK => ?_) AllReadyH.nil
       go_simp
       refine HC1.out.mono ?_
       rintro z w6 ⟨rfl, hw⟩
       subst hw
       refine hK.out _ _ ?_ (fun hHeld => ?_)
       · exact ⟨(HS.out _ hX).2.2.2.1, HNe.out _ (HU.out _ hX)⟩
       clear hK K
       try simp only [Act.put, List.setIfInBounds_toArray, List.set_cons_zero, List.set_cons_succ]
       refine tq 7 ?_
       refine tq 8 ?_
       refine tq 9 ?_
       refine tq 10 ?_
       refine tq 11 ?_
       refine tq 12 ?_
       refine tq 13 ?_
       refine tq 14 ?_
       refine tq 15 ?_
       refine tq 16 ?_
       refine wpAnyH_ready (rs := [17]) (by kernel_rfl) (by simp) ?_
       refine rdy rfl (fun K hK => ?_) AllReadyH.nil
       go_simp
       refine HC2.out.mono ?_
       rintro z w6 ⟨rfl, hw⟩
       subst hw
       refine hK.out _ _ ?_ (fun hHeld => ?_)
       · exact ⟨(HS.out _ hX).2.2.2.1, HNe.out _ (HU.out _ hX)⟩
       clear hK K
       try simp only [Act.put, List.setIfInBounds_toArray, List.set_cons_zero, List.set_cons_succ]
       refine tq 18 ?_
       refine wpAnyH_done (by kernel_rfl) ?_ _
       have HX6 := Lib.hid hX
       have HE5 := Lib.hid (show R = seq (ask (!q2) 2) (seq (namesR x fn f (ns ++ [nm]) rs) (seq (fitR y g) (y.args.chk x fn deep))) by
         have h := HCc.out
         rw [HE4.out, show decide (f nm = 0) = true by simpa using h]; rfl)
       clear hX HE4
       cases q2
       · have HE6 := Lib.hid (show R = seq (namesR x fn f (ns ++ [nm]) rs) (seq (fitR y g) (y.args.chk x fn deep)) by rw [HE5.out]; rfl)
         go_wp2_with fail
         go_roundw
         case rel => exact ⟨ns ++ [nm], rs, by rw [List.length_append]; go_num, by simp; omega, Lib.hid (by rw [hns.out]; simp), HE6, HX6⟩
         case measure => simp [intOf]; omega
       · have HV := Lib.hid (show 2 = R by rw [HE5.out]; rfl)
         have HE := Lib.hid (HU.out _ HX6.out)
         go_wp2_with fail
         go_ret
         exact ⟨by rw [← HV.out]; rfl, HE.out⟩
     · refine wp_region_held_drew (S := fun W => W.cell? ⟨w.heap.size + 1, 2, none⟩ = some (.slice (some ⟨b2, o2, none⟩) y.names.length cn) ∧ W.cell? ⟨b2, o2 + ns.length, none⟩ = some (.string (str nm))) (by kernel_rfl) ?_ (fun hHeld => ?_)
       · exact ⟨(HS.out _ hX).2.2.2.1, HNe.out _ (HU.out _ hX)⟩
       refine tq 0 ?_
       refine tq 1 ?_
       refine tq 2 ?_
       refine tq 3 ?_
       refine tq 4 ?_
       refine tq 5 ?_
       refine wpAnyH_ready (rs := [6]) (by kernel_rfl) (by simp) ?_
       refine rdy rfl (fun K hK => ?_) AllReadyH.nil
       go_simp
       refine HC1.out.mono ?_
       rintro z w6 ⟨rfl, hw⟩
       subst hw
       refine hK.out _ _ ?_ (fun hHeld => ?_)
       · exact ⟨(HS.out _ hX).2.2.2.1, HNe.out _ (HU.out _ hX)⟩
       clear hK K
       try simp only [Act.put, List.setIfInBounds_toArray, List.set_cons_zero, List.set_cons_succ]
       refine tq 7 ?_
       refine sq 8 ?_
       refine sq 9 ?_
       refine sq 10 ?_
       refine sq 11 ?_
       refine sq 12 ?_
       refine sq 13 ?_
       refine sq 14 ?_
       refine sq 15 ?_
       refine sq 16 ?_
       refine sq 17 ?_
       refine tq 18 ?_
       refine wpAnyH_done (by kernel_rfl) ?_ _
       have HX6 := Lib.hid hX
       have HV := Lib.hid (show 2 = R by
         have h := HCc.out
         rw [HE4.out, show decide (f nm = 0) = false by simpa using h]; rfl)
       have HE := Lib.hid (HU.out _ HX6.out)
       clear hX HE4
       go_wp2_with fail
       go_ret
       exact ⟨by rw [← HV.out]; rfl, HE.out⟩
   | nil =>
     simp only [List.length_nil] at hk2
     have hge2 : ¬ ns.length < y.names.length := by omega
     have HE3 := Lib.hid (show R = seq (fitR y g) (y.args.chk x fn deep) by rw [hE2.out, namesR]; rfl)
     obtain ⟨sg, hpq, _, e1, e3, hmp, hmr⟩ := HFn.out wr ds r g (HU.out _ hB2.out) HDs.out
     subst hpq
     have hkl : k < x.fns.length := by rw [HDs.out]; simp; have := HDk.out; omega
     have hX : Below W0.heap.size W0 wr.drew := hB2.out.drew
     rw [HDk.out] at e1 e3
     have HCe := Lib.hid (show ∀ W, Below wr.heap.size wr W → W.cell? ⟨b', o' + k * 5 + 1, none⟩ = some (.slice sg.pp g.params.length sg.cp) ∧ W.cell? ⟨b', o' + k * 5 + 3, none⟩ = some (.slice sg.pr g.rets.length sg.cr) from fun W hB => by
       have hbw : b' < wr.heap.size := World.block_lt_of_cell? _ _ e1
       exact ⟨(hB.cell (p := ⟨b', _, none⟩) hbw).trans e1, (hB.cell (p := ⟨b', _, none⟩) hbw).trans e3⟩)
     have hXr : Below wr.heap.size wr wr.drew := (Below.refl _ _).drew
     have HFt := Lib.hid (fit_bne y g)
     generalize f1 : (((y.args.len : Nat) : Int) != ((g.params.length : Nat) : Int)) = t1 at HFt
     generalize f2 : (((y.names.length : Nat) : Int) != ((g.rets.length : Nat) : Int)) = t2 at HFt
     clear hE2 e1 e3
     go_wp2_with fail
     clear s0 s1 s2 s3 s4
     cases t1
     · cases t2
       · refine wp_region_held_drew (S := fun W => W.cell? ⟨w.heap.size, 1, none⟩ = some (.slice (some ⟨b', o', none⟩) x.fns.length d) ∧ W.cell? ⟨w.heap.size + 1, 2, none⟩ = some (.slice pn y.names.length cn) ∧ W.cell? ⟨w.heap.size + 1, 11, none⟩ = some (.slice pg y.args.len cg) ∧ W.cell? ⟨b', o' + k * 5 + 1, none⟩ = some (.slice sg.pp g.params.length sg.cp) ∧ W.cell? ⟨b', o' + k * 5 + 3, none⟩ = some (.slice sg.pr g.rets.length sg.cr)) (by kernel_rfl) ?_ (fun hHeld => ?_)
         · exact ⟨(HS.out _ hX).2.1, (HS.out _ hX).2.2.2.1, (HS.out _ hX).2.2.2.2, HCe.out _ hXr⟩
         refine tq 0 ?_
         refine tq 1 ?_
         refine tq 2 ?_
         refine tq 3 ?_
         refine tq 4 ?_
         refine tq 5 ?_
         refine tq 6 ?_
         refine tq 7 ?_
         refine tq 8 ?_
         refine tq 9 ?_
         refine tk 10 (.bool false) rfl (.inl ⟨by rfl, ?_⟩) ?_
         · (intro w hSw; (try dsimp only at hSw); go_simp)
         try simp only [Act.put, List.setIfInBounds_toArray, List.set_cons_zero, List.set_cons_succ]
         refine tq 11 ?_
         refine tq 12 ?_
         refine tq 13 ?_
         refine tq 14 ?_
         refine tq 15 ?_
         refine tq 16 ?_
         refine tq 17 ?_
         refine tq 18 ?_
         refine tq 19 ?_
         refine tq 20 ?_
         refine tq 21 ?_
         refine tk 22 (.bool false) rfl (.inl ⟨by rfl, ?_⟩) ?_
         · (intro w hSw; (try dsimp only at hSw); go_simp)
         try simp only [Act.put, List.setIfInBounds_toArray, List.set_cons_zero, List.set_cons_succ]
         refine tq 23 ?_
         refine wpAnyH_done (by kernel_rfl) ?_ _
         have HX7 := Lib.hid hX
         have HE4 := Lib.hid (show R = y.args.chk x fn deep by rw [HE3.out, HFt.out]; rfl)
         clear hX hXr HE3 HFt
         go_wp2_with fail
         go_loopw [15, 16] (fun i xx wr => ∃ (j : Nat) (as' : Exs), i = .int .i64 j ∧ j + as'.len = y.args.len ∧ Hid (as'.At w N b3 (o3 + j * 4)) ∧ Hid (R = as'.chk x fn deep) ∧ Hid (Below W0.heap.size W0 wr)) (fun i _ _ => y.args.len - (intOf i).toNat)
         case atStart => exact ⟨0, y.args, rfl, by omega, Lib.hid (by rw [Nat.zero_mul]; exact HA3.out.1), HE4, HX7⟩
         case round =>
           obtain ⟨j, as', rfl, hk3, hr3, hE5, hB5⟩ := hrel
           obtain ⟨s0, s1, s2, s3, s4⟩ := HS.out _ hB5.out
           cases as' with
           | nil =>
             simp only [Exs.len] at hk3
             have hge3 : ¬ j < y.args.len := by omega
             have HV := Lib.hid (show 0 = R by rw [hE5.out, Exs.chk])
             have HE := Lib.hid (HU.out _ hB5.out)
             clear hE5 hr3
             go_wp2_with fail
             go_ret
             exact ⟨by rw [← HV.out]; rfl, HE.out⟩
           | cons e as' =>
             simp only [Exs.len] at hk3
             have hlt3 : j < y.args.len := by omega
             obtain ⟨he, hr4⟩ := hr3.out
             rcases hq3 with h0 | rfl
             · omega
             have hbN : b3 < N := by have := HA3.out.2; omega
             have hBw := HU.out _ hB5.out
             obtain ⟨q, cq, d0, d1', d2, d3, hok⟩ := (Ex.At.later (hBw.mono HN.out) (Nat.le_refl N) e b3 (o3 + j * 4) hbN he).open'
             have hX : Below wr.heap.size wr wr.drew := (Below.refl _ _).drew
             have hX0 := hB5.out.trans (hX.mono hB5.out.size)
             have HC := Lib.hid (HEx.out e wr.drew q cq (HU.out _ hX0) (Ex.Ok.later hok (hX.mono (Nat.le_trans HN.out hBw.size)) (Nat.le_refl N)))
             have HE6 := Lib.hid (show R = seq (e.chk x fn deep) (as'.chk x fn deep) by rw [hE5.out, Exs.chk])
             have HRr := Lib.hid hr4
             have HCs := Lib.hid (show wr.cell? ⟨b3, o3 + j * 4, none⟩ = some (.int .i64 e.op) ∧ wr.cell? ⟨b3, o3 + j * 4 + 1, none⟩ = some (.int .u64 (e.word : Int)) ∧ wr.cell? ⟨b3, o3 + j * 4 + 2, none⟩ = some (.string (str e.name)) ∧ wr.cell? ⟨b3, o3 + j * 4 + 3, none⟩ = some (.slice q e.args.len cq) from ⟨d0, d1', d2, d3⟩)
             have HCt := Lib.hid (fun (W : World) (hB : Below wr.heap.size wr W) => show W.cell? ⟨b3, o3 + j * 4, none⟩ = some (.int .i64 e.op) ∧ W.cell? ⟨b3, o3 + j * 4 + 1, none⟩ = some (.int .u64 (e.word : Int)) ∧ W.cell? ⟨b3, o3 + j * 4 + 2, none⟩ = some (.string (str e.name)) ∧ W.cell? ⟨b3, o3 + j * 4 + 3, none⟩ = some (.slice q e.args.len cq) from
               have hbw : b3 < wr.heap.size := Nat.lt_of_lt_of_le hbN (Nat.le_trans HN.out hBw.size)
               ⟨(hB.cell (p := ⟨b3, _, none⟩) hbw).trans HCs.out.1, (hB.cell (p := ⟨b3, _, none⟩) hbw).trans HCs.out.2.1, (hB.cell (p := ⟨b3, _, none⟩) hbw).trans HCs.out.2.2.1, (hB.cell (p := ⟨b3, _, none⟩) hbw).trans HCs.out.2.2.2⟩)
             generalize e.chk x fn deep = v5 at HC HE6
             clear he hr3 hr4 hok hE5 hBw d0 d1' d2 d3
             go_upto_region 24 with fail
             clear s0 s1 s2 s3 s4
             refine wp_region_held_drew (S := fun W => W.cell? ⟨w.heap.size, 0, none⟩ = some (.slice pp x.regs.length c) ∧ W.cell? ⟨w.heap.size, 1, none⟩ = some (.slice (some ⟨b', o', none⟩) x.fns.length d) ∧ W.cell? ⟨w.heap.size + 1, 11, none⟩ = some (.slice (some ⟨b3, o3, none⟩) y.args.len cg) ∧ W.cell? ⟨b3, o3 + j * 4, none⟩ = some (.int .i64 e.op) ∧ W.cell? ⟨b3, o3 + j * 4 + 1, none⟩ = some (.int .u64 (e.word : Int)) ∧ W.cell? ⟨b3, o3 + j * 4 + 2, none⟩ = some (.string (str e.name)) ∧ W.cell? ⟨b3, o3 + j * 4 + 3, none⟩ = some (.slice q e.args.len cq)) (by kernel_rfl) ?_ (fun hHeld => ?_)
             · exact ⟨(HS.out _ hX0).1, (HS.out _ hX0).2.1, (HS.out _ hX0).2.2.2.2, HCt.out _ hX⟩
             refine tq 0 ?_
             refine tq 1 ?_
             refine tq 2 ?_
             refine tq 3 ?_
             refine tq 4 ?_
             refine tq 5 ?_
             refine tq 6 ?_
             refine tq 7 ?_
             refine wpAnyH_ready (rs := [8]) (by kernel_rfl) (by simp) ?_
             refine rdy rfl (fun K hK => ?_) AllReadyH.nil
             go_simp
             refine HC.out.mono ?_
             rintro z w8 ⟨rfl, hB8⟩
             replace hX := hX.trans (hB8.mono hX.size)
             replace hX0 := hB5.out.trans (hX.mono hB5.out.size)
             clear hB8
             refine hK.out _ _ ?_ (fun hHeld => ?_)
             · exact ⟨(HS.out _ hX0).1, (HS.out _ hX0).2.1, (HS.out _ hX0).2.2.2.2, HCt.out _ hX⟩
             clear hK K
             try simp only [Act.put, List.setIfInBounds_toArray, List.set_cons_zero, List.set_cons_succ]
             refine tq 9 ?_
             refine wpAnyH_done (by kernel_rfl) ?_ _
             have HX8 := Lib.hid hX0
             clear hX hX0
             by_cases hv5 : v5 = 0
             · subst hv5
               have HE7 := Lib.hid (show R = as'.chk x fn deep by rw [HE6.out]; rfl)
               clear HE6
               go_wp2_with fail
               go_roundw
               case rel => exact ⟨j + 1, as', by go_num, by omega, Lib.hid (by rw [show o3 + (j + 1) * 4 = o3 + j * 4 + 4 by omega]; exact HRr.out), HE7, HX8⟩
               case measure => simp [intOf]; omega
             · have hv5i : ((v5 : Int) != 0) = true := by simp [bne]; omega
               have HV := Lib.hid (show v5 = R by rw [HE6.out, seq_no hv5])
               have HE := Lib.hid (HU.out _ HX8.out)
               clear HE6
               go_wp2_with fail
               go_ret
               exact ⟨by rw [← HV.out]; rfl, HE.out⟩
       · refine wp_region_held_drew (S := fun W => W.cell? ⟨w.heap.size, 1, none⟩ = some (.slice (some ⟨b', o', none⟩) x.fns.length d) ∧ W.cell? ⟨w.heap.size + 1, 2, none⟩ = some (.slice pn y.names.length cn) ∧ W.cell? ⟨w.heap.size + 1, 11, none⟩ = some (.slice pg y.args.len cg) ∧ W.cell? ⟨b', o' + k * 5 + 1, none⟩ = some (.slice sg.pp g.params.length sg.cp) ∧ W.cell? ⟨b', o' + k * 5 + 3, none⟩ = some (.slice sg.pr g.rets.length sg.cr)) (by kernel_rfl) ?_ (fun hHeld => ?_)
         · exact ⟨(HS.out _ hX).2.1, (HS.out _ hX).2.2.2.1, (HS.out _ hX).2.2.2.2, HCe.out _ hXr⟩
         refine tq 0 ?_
         refine tq 1 ?_
         refine tq 2 ?_
         refine tq 3 ?_
         refine tq 4 ?_
         refine tq 5 ?_
         refine tq 6 ?_
         refine tq 7 ?_
         refine tq 8 ?_
         refine tq 9 ?_
         refine tk 10 (.bool false) rfl (.inl ⟨by rfl, ?_⟩) ?_
         · (intro w hSw; (try dsimp only at hSw); go_simp)
         try simp only [Act.put, List.setIfInBounds_toArray, List.set_cons_zero, List.set_cons_succ]
         refine tq 11 ?_
         refine tq 12 ?_
         refine tq 13 ?_
         refine tq 14 ?_
         refine tq 15 ?_
         refine tq 16 ?_
         refine tq 17 ?_
         refine tq 18 ?_
         refine tq 19 ?_
         refine tq 20 ?_
         refine tq 21 ?_
         refine tk 22 (.bool true) rfl (.inl ⟨by rfl, ?_⟩) ?_
         · (intro w hSw; (try dsimp only at hSw); go_simp)
         try simp only [Act.put, List.setIfInBounds_toArray, List.set_cons_zero, List.set_cons_succ]
         refine tq 23 ?_
         refine wpAnyH_done (by kernel_rfl) ?_ _
         have HV := Lib.hid (show 2 = R by rw [HE3.out, HFt.out]; rfl)
         have HE := Lib.hid (HU.out _ hX)
         clear hX hXr HE3 HFt
         go_wp2_with fail
         go_ret
         exact ⟨by rw [← HV.out]; rfl, HE.out⟩
     · refine wp_region_held_drew (S := fun W => W.cell? ⟨w.heap.size, 1, none⟩ = some (.slice (some ⟨b', o', none⟩) x.fns.length d) ∧ W.cell? ⟨w.heap.size + 1, 2, none⟩ = some (.slice pn y.names.length cn) ∧ W.cell? ⟨w.heap.size + 1, 11, none⟩ = some (.slice pg y.args.len cg) ∧ W.cell? ⟨b', o' + k * 5 + 1, none⟩ = some (.slice sg.pp g.params.length sg.cp) ∧ W.cell? ⟨b', o' + k * 5 + 3, none⟩ = some (.slice sg.pr g.rets.length sg.cr)) (by kernel_rfl) ?_ (fun hHeld => ?_)
       · exact ⟨(HS.out _ hX).2.1, (HS.out _ hX).2.2.2.1, (HS.out _ hX).2.2.2.2, HCe.out _ hXr⟩
       refine tq 0 ?_
       refine tq 1 ?_
       refine tq 2 ?_
       refine tq 3 ?_
       refine tq 4 ?_
       refine tq 5 ?_
       refine tq 6 ?_
       refine tq 7 ?_
       refine tq 8 ?_
       refine tq 9 ?_
       refine tk 10 (.bool true) rfl (.inl ⟨by rfl, ?_⟩) ?_
       · (intro w hSw; (try dsimp only at hSw); go_simp)
       try simp only [Act.put, List.setIfInBounds_toArray, List.set_cons_zero, List.set_cons_succ]
       refine tq 11 ?_
       refine sq 12 ?_
       refine sq 13 ?_
       refine sq 14 ?_
       refine sq 15 ?_
       refine sq 16 ?_
       refine sq 17 ?_
       refine sq 18 ?_
       refine sq 19 ?_
       refine sq 20 ?_
       refine sq 21 ?_
       refine sq 22 ?_
       refine tq 23 ?_
       refine wpAnyH_done (by kernel_rfl) ?_ _
       have HV := Lib.hid (show 2 = R by rw [HE3.out, HFt.out]; rfl)
       have HE := Lib.hid (HU.out _ hX)
       clear hX hXr HE3 HFt
       go_wp2_with fail
       go_ret
       exact ⟨by rw [← HV.out]; rfl, HE.out⟩
end Go.Proofs.YtihmibggonffdaaGreat
