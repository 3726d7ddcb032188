/- SectypeLevels: the walk. -/
import Derived.Test.YtihmibggonffdaaGreatLBB
import Derived.Test.YtihmibggonffdaaGreatDD2
import Derived.Test.YtihmibggonffdaaGreatDE2
import Derived.Test.YtihmibggonffdaaGreatU3
import Derived.Test.YtihmibggonffdaaGreatLBC
import Derived.Test.YtihmibggonffdaaGreatD7
import Derived.Test.YtihmibggonffdaaGreatF1
namespace Go.Proofs.YtihmibggonffdaaGreat
open Go.RowKit

def BAt (w : World) (t : Bool) (b o : Nat) : Prop := w.cell? ⟨b, o, none⟩ = some (.bool t)
def smP (e : Ex) : Prg := ⟨[], [⟨[], [], [], [], .cons (mkS 0 [] e ex0 .nil .nil) .nil⟩]⟩
theorem smP_big (e : Ex) : fnsBig (smP e).fns ≤ e.size + 10 ∧ e.size ≤ bsum (smP e).fns := by
 have h0 : ex0.size = 1 := by rfl
 simp only [smP, fnsBig, bsum, Sts.big, St.big, mkS, h0, List.length_nil, Exs.size]
 omega
theorem boolCells_set (l : List Bool) (k : Nat) (t : Bool) : boolCells (l.set k t) = (boolCells l).set k (.bool t) := by unfold boolCells; rw [List.map_set]
theorem Cs.put {w : World} {M g i er gn rb cap : Nat} {x : Prg} {s : PrgP} {L : List Bool} (h : Cs w M g x s i (.slice (some ⟨rb, 0, none⟩) L.length cap) L er gn) (k : Nat) (t : Bool) : Cs (w.setCell ⟨rb, k, none⟩ (.bool t)) M g x s i (.slice (some ⟨rb, 0, none⟩) L.length cap) (L.set k t) er gn := by
 have hne : g ≠ rb := fun e => by
   obtain ⟨_, cur, hc⟩ := own_ty h.r (k := rb) rfl
   rw [← e, h.k] at hc; injection hc with hc; exact chk_bool hc
 refine ⟨(Below.heap_setCell _ ⟨rb, k, none⟩ _ _ hne).trans h.k, ?_⟩
 have h2 := (h.r.stored k (.bool t)).1
 rw [List.length_set, boolCells_set]
 exact h2
theorem Cs.fwd {S : Nat → Prop} {w w' : World} {M g i er gn : Nat} {x : Prg} {s : PrgP} {v : Value} {L : List Bool} (h : Cs w M g x s i v L er gn) (hF : Fw S w w') (hs : ∀ k, S k → ∃ es c, w.heap[k]? = some (.map es c)) : Cs w' M g x s i v L er gn :=
 ⟨(hF.block g (lt_blk h.k) (fun e => by obtain ⟨_, _, h1⟩ := hs g e; rw [h.k] at h1; cases h1)).trans h.k, own_fwb h.r hF (fun k e cur hc => by obtain ⟨_, _, h1⟩ := hs k e; rw [hc] at h1; cases h1)⟩
theorem vr_blk {w w' : World} {v : Vr} {b o : Nat} (e : w'.heap[b]? = w.heap[b]?) (h : Vr.At w v b o) : Vr.At w' v b o := by
 have hc : ∀ j, w'.cell? ⟨b, j, none⟩ = w.cell? ⟨b, j, none⟩ := fun j => by simp [World.cell?, e]
 unfold Vr.At at *
 rw [hc, hc, hc, hc]; exact h
theorem row_blk {w : World} {B : Nat} {v : Value} {l : List Vr} (h : w.ownsRow B 58 4 v l.length (vrCells l)) {p : Option Addr} {c : Nat} (e : v = .slice p l.length c) (hn : 0 < l.length) : ∃ b, p = some ⟨b, 0, none⟩ ∧ B ≤ b ∧ b < w.heap.size := by
 rcases h.2 with ⟨e1, e2⟩ | ⟨g, cap, cur, e1, hb, hg, _⟩
 · omega
 · rw [e] at e1; injection e1 with e1 _ _; exact ⟨g, e1, hb, lt_blk hg⟩
set_option maxRecDepth 100000 in
set_option maxHeartbeats 25600000 in
theorem law_levels (x : Prg) (s : PrgP) (f : Int) (e : Ex) (pe : Option Addr) (ce : Nat) (ws : List Bool) (pw : Option Addr) (cw N : Nat) (w : World) (h : x.Ok w N s.p s.q) (hN : N ≤ w.heap.size) (hc : x.regs.length ≤ s.c) (hd : x.fns.length ≤ s.d) (hbig : fnsBig x.fns ≤ 4000000) (he : e.Ok w N pe) (hez : e.size ≤ 2000000) (hws : RowIn N (BAt w) 1 ws pw) :
   Calls Tryz.prog 4 #[x.v s, .int .i64 f, e.val pe ce, .slice pw ws.length cw] w fun z w' => z = .returned (.bool true) ∧ Below w.heap.size w w' := by
 obtain ⟨p, q, c, d⟩ := s
 obtain ⟨w2, hw2, k0, k1, hB2, hz2⟩ := two_alloc w (.cells #[.slice p x.regs.length c, .slice q x.fns.length d] 25) (.cells #[.int .i64 e.op, .int .u64 (e.word : Int), .string (str e.name), .slice pe e.args.len ce] 40)
 have hmf : x.fns.length ≤ 140737488355328 := h.2.1
 have hmw : ws.length ≤ 140737488355328 := hws.1
 have HX := Lib.hid (fun (W : World) (hW : Below w.heap.size w W) => h.later (hW.mono hN) (Nat.le_refl N))
 have HEo := Lib.hid (fun (W : World) (hW : Below w.heap.size w W) => he.later (hW.mono hN) (Nat.le_refl N))
 have HWo := Lib.hid (fun (W : World) (hW : Below w.heap.size w W) => show RowIn N (BAt W) 1 ws pw from hws.imp (Nat.le_refl N) (fun t b o hb ht => ((hW.mono hN).cell (p := ⟨b, o, none⟩) hb).trans ht))
 have HU := Lib.hid (fun (W : World) (hW : Below w2.heap.size w2 W) => show Below w.heap.size w W from hB2.trans (hW.mono hB2.size))
 have HP := Lib.hid (fun (W : World) (hW : Below w2.heap.size w2 W) => show W.cell? ⟨w.heap.size, 0, none⟩ = some (.slice p x.regs.length c) ∧ W.cell? ⟨w.heap.size, 1, none⟩ = some (.slice q x.fns.length d) ∧ W.cell? ⟨w.heap.size + 1, 0, none⟩ = some (.int .i64 e.op) ∧ W.cell? ⟨w.heap.size + 1, 1, none⟩ = some (.int .u64 (e.word : Int)) ∧ W.cell? ⟨w.heap.size + 1, 2, none⟩ = some (.string (str e.name)) ∧ W.cell? ⟨w.heap.size + 1, 3, none⟩ = some (.slice pe e.args.len ce) from
   have a0 := (hW.block _ (lt_blk k0)).trans k0
   have a1 := (hW.block _ (lt_blk k1)).trans k1
   ⟨cell_blk a0 rfl, cell_blk a0 rfl, cell_blk a1 rfl, cell_blk a1 rfl, cell_blk a1 rfl, cell_blk a1 rfl⟩)
 have HA := Lib.hid (And.intro hN (And.intro hc (And.intro hd (And.intro hbig (And.intro he.2 hez)))))
 have HZ2 := Lib.hid hz2
 have HB2 := Lib.hid hB2
 have HSm := Lib.hid (small2_any 1000 x ⟨p, q, c, d⟩ N w2 (HX.out _ hB2) (by omega) hbig)
 unfold Prg.v at HSm ⊢
 unfold Ex.val
 dsimp only at HSm ⊢
 have HW2 := Lib.hid hw2
 obtain ⟨p0, p1, p2, p3, p4, p5⟩ := HP.out w2 (Below.refl _ _)
 clear h hN hc hd hbig he hez hws hw2 k0 k1 hB2 hz2
 go_enter Tryz.func4, Tryz.ntmps4
 go_wp2_with fail
 erw [HW2.out]
 refine HSm.out.mono ?_
 rintro z w3 ⟨⟨b, rfl, _⟩, hB3⟩
 have HB3 := Lib.hid hB3
 clear hB3 HSm HW2 p0 p1 p2 p3 p4 p5
 cases b
 · have HX1 := Lib.hid (HU.out _ HB3.out)
   go_wp2_with fail
   refine (known_any w3).mono ?_
   rintro z wk ⟨rfl, hBk⟩
   have HY := Lib.hid (HX1.out.trans (hBk.mono HX1.out.size))
   clear hBk
   go_wp2_with fail
   go_ret
   exact ⟨rfl, HY.out⟩
 obtain ⟨p0, p1, p2, p3, p4, p5⟩ := HP.out w3 HB3.out
 obtain ⟨w5, hw5, j0, j1, hB5, hz5⟩ := two_alloc w3 (.cells #[.int .i64 0, .string (str []), .slice none 0 0, .int .i64 e.op, .int .u64 (e.word : Int), .string (str e.name), .slice pe e.args.len ce, .int .i64 0, .int .u64 0, .string (str []), .slice none 0 0, .slice none 0 0, .int .u64 0, .int .u64 0, .slice none 0 0, .slice none 0 0] 45) (.cells #[.string (str []), .slice none 0 0, .slice none 0 0, .slice none 0 0, .slice (some ⟨w3.heap.size, 0, none⟩) 1 1] 48)
 have HB5 := Lib.hid (HB3.out.trans (hB5.mono HB3.out.size))
 have hN3 : N ≤ w3.heap.size := Nat.le_trans HA.out.1 (HU.out _ HB3.out).size
 have hbd : (Sts.cons (mkS 0 [] e ex0 .nil .nil) .nil).In w5 (w3.heap.size + 2) (some ⟨w3.heap.size, 0, none⟩) :=
   ⟨show 1 ≤ 140737488355328 by decide, .inr ⟨w3.heap.size, 0, rfl, by omega, st_at (e := e) (a := ex0) (g := .nil) (bd := .nil) (pa := none) (pg := none) (pb := none) (ca := 0) (cg := 0) (cb := 0) j0 0 rfl HA.out.2.2.2.2.1 (by decide) ((HEo.out _ (HU.out _ HB5.out)).1.later (Below.refl _ _) (by omega)) exs0 exs0 sts0, trivial⟩⟩
 have hx5 : (smP e).Ok w5 (w3.heap.size + 2) none (some ⟨w3.heap.size + 1, 0, none⟩) :=
   ⟨⟨Nat.zero_le _, .inl rfl⟩, show 1 ≤ 140737488355328 by decide, .inr ⟨w3.heap.size + 1, 0, rfl, by omega, ⟨⟨cell_blk j1 (j := 0) rfl, ⟨_, _, cell_blk j1 (j := 1) rfl, ⟨Nat.zero_le _, .inl rfl⟩⟩, ⟨_, _, cell_blk j1 (j := 2) rfl, ⟨Nat.zero_le _, .inl rfl⟩⟩, ⟨_, _, cell_blk j1 (j := 3) rfl, ⟨Nat.zero_le _, ⟨Nat.zero_le _, .inl rfl⟩⟩⟩, ⟨_, _, cell_blk j1 (j := 4) rfl, hbd⟩⟩, trivial⟩⟩⟩
 have HSm := Lib.hid (show Calls Tryz.prog 6 #[.agg #[.slice none 0 0, .slice (some ⟨w3.heap.size + 1, 0, none⟩) 1 1], .int .i64 1000] w5 (fun z w' => (∃ b : Bool, z = .returned (.bool b) ∧ (b = true → bsum (smP e).fns ≤ 2 * 1000)) ∧ Below w5.heap.size w5 w') from small2_any 1000 (smP e) ⟨none, some ⟨w3.heap.size + 1, 0, none⟩, 0, 1⟩ (w3.heap.size + 2) w5 hx5 (by omega) (by have := (smP_big e).1; have := HA.out.2.2.2.2.2; omega))
 have HW5 := Lib.hid hw5
 clear hw5 j0 j1 hB5 hz5 hN3 hbd hx5
 go_wp2_with fail
 erw [HW5.out]
 refine HSm.out.mono ?_
 rintro z w6 ⟨⟨b, rfl, hb6⟩, hB6⟩
 have HB6 := Lib.hid (HB5.out.trans (hB6.mono HB5.out.size))
 have HS6 := Lib.hid hb6
 clear hB6 hb6 HSm HW5 p0 p1 p2 p3 p4 p5
 cases b
 · have HX1 := Lib.hid (HU.out _ HB6.out)
   go_wp2_with fail
   refine (known_any w6).mono ?_
   rintro z wk ⟨rfl, hBk⟩
   have HY := Lib.hid (HX1.out.trans (hBk.mono HX1.out.size))
   clear hBk
   go_wp2_with fail
   go_ret
   exact ⟨rfl, HY.out⟩
 have HEs := Lib.hid (show e.size ≤ 3000 by have h1 := HS6.out rfl; have := (smP_big e).2; omega)
 have hmm := @run_makeMap Tryz.prog
 obtain ⟨w7, hw7, j0, hB7, hz7⟩ := one_alloc w6 (.map #[] 0)
 have HB7 := Lib.hid (HB6.out.trans (hB7.mono HB6.out.size))
 have HBm := Lib.hid (show Bm w7 w6.heap.size (fun _ => none) from by rw [← hw7]; exact Bm.new w6)
 have hN7 : N ≤ w7.heap.size := Nat.le_trans HA.out.1 (HU.out _ HB7.out).size
 have HMy := Lib.hid (rmay2_any x ⟨p, q, c, d⟩ N w7 (HX.out _ (HU.out _ HB7.out)) hN7 HA.out.2.2.2.1)
 unfold Prg.v at HMy
 dsimp only at HMy
 have HZ7 := Lib.hid (And.intro hz7 (show w2.heap.size ≤ w6.heap.size from HB6.out.size))
 obtain ⟨p0, p1, p2, p3, p4, p5⟩ := HP.out w6 HB6.out
 obtain ⟨r0, r1, r2, r3, r4, r5⟩ := HP.out w7 HB7.out
 have HW7 := Lib.hid hw7
 clear hw7 j0 hB7 hz7 hN7 HS6
 go_upto_region 4 with fail
 erw [HW7.out]
 clear p0 p1 p2 p3 p4 p5
 go_wp2_with fail
 refine HMy.out.mono ?_
 rintro z w8 ⟨rfl, hB8⟩
 have HB8 := Lib.hid (HB7.out.trans (hB8.mono HB7.out.size))
 have HBm8 := Lib.hid (HBm.out.later hB8)
 have hN8 : N ≤ w8.heap.size := Nat.le_trans HA.out.1 (HU.out _ HB8.out).size
 have HX8 := Lib.hid (HX.out _ (HU.out _ HB8.out))
 have HE8 := Lib.hid (HEo.out _ (HU.out _ HB8.out))
 clear hB8 HMy HW7 HBm hmm r0 r1 r2 r3 r4 r5
 obtain ⟨p0, p1, p2, p3, p4, p5⟩ := HP.out w8 HB8.out
 obtain ⟨mb, hmb⟩ : ∃ mb, mb = w6.heap.size := ⟨_, rfl⟩
 rw [← hmb] at HBm8 HZ7
 rw [← hmb]
 clear hmb
 by_cases hm : mayR x = 0
 rotate_left
 · have HLv := Lib.hid (level_no x ⟨p, q, c, d⟩ f e pe ce mb N w8 HX8.out hN8 HA.out.2.1 HA.out.2.2.1 hm)
   have hne : ((mayR x : Int) != 0) = true := by simp; omega
   have heq : ((mayR x : Int) == (mayR x : Int)) = true := by simp
   unfold Prg.v Ex.val at HLv
   dsimp only at HLv
   generalize mayR x = m at *
   go_wp2_with fail
   refine HLv.out.mono ?_
   rintro z w9 ⟨rfl, hB9⟩
   have HX1 := Lib.hid (HU.out _ (HB8.out.trans (hB9.mono HB8.out.size)))
   clear hB9 HLv p0 p1 p2 p3 p4 p5
   go_wp2_with fail
   refine (known_any w9).mono ?_
   rintro z wk ⟨rfl, hBk⟩
   have HY := Lib.hid (HX1.out.trans (hBk.mono HX1.out.size))
   clear hBk
   go_wp2_with fail
   go_ret
   exact ⟨rfl, HY.out⟩
 have HM := Lib.hid hm
 rw [hm]
 clear hm
 by_cases hf : f < 0 ∨ (x.fns.length : Int) ≤ f
 · have HLv := Lib.hid (level_out x ⟨p, q, c, d⟩ f e pe ce mb N w8 HX8.out hN8 HA.out.2.1 HA.out.2.2.1 HM.out hf)
   unfold Prg.v Ex.val at HLv
   dsimp only at HLv
   by_cases h0 : f < 0
   · clear hf
     go_wp2_with fail
     refine HLv.out.mono ?_
     rintro z w9 ⟨rfl, hB9⟩
     have HX1 := Lib.hid (HU.out _ (HB8.out.trans (hB9.mono HB8.out.size)))
     clear hB9 HLv p0 p1 p2 p3 p4 p5
     go_wp2_with fail
     refine (known_any w9).mono ?_
     rintro z wk ⟨rfl, hBk⟩
     have HY := Lib.hid (HX1.out.trans (hBk.mono HX1.out.size))
     clear hBk
     go_wp2_with fail
     go_ret
     exact ⟨rfl, HY.out⟩
   · have h1 : (x.fns.length : Int) ≤ f := by omega
     clear hf
     go_wp2_with fail
     refine HLv.out.mono ?_
     rintro z w9 ⟨rfl, hB9⟩
     have HX1 := Lib.hid (HU.out _ (HB8.out.trans (hB9.mono HB8.out.size)))
     clear hB9 HLv p0 p1 p2 p3 p4 p5
     go_wp2_with fail
     refine (known_any w9).mono ?_
     rintro z wk ⟨rfl, hBk⟩
     have HY := Lib.hid (HX1.out.trans (hBk.mono HX1.out.size))
     clear hBk
     go_wp2_with fail
     go_ret
     exact ⟨rfl, HY.out⟩
 obtain ⟨i, rfl⟩ : ∃ i : Nat, f = (i : Int) := ⟨f.toNat, by omega⟩
 have hil : i < x.fns.length := by omega
 obtain ⟨fn, hi⟩ : ∃ fn, x.fns[i]? = some fn := ⟨_, List.getElem?_eq_getElem hil⟩
 have hi0 : ¬ (i : Int) < 0 := by omega
 have hi1 : ¬ (x.fns.length : Int) ≤ (i : Int) := by omega
 obtain ⟨ds, rs, hfe, hfl⟩ : ∃ ds rs, x.fns = ds ++ fn :: rs ∧ ds.length = i := by
   obtain ⟨h1, h2⟩ := List.getElem?_eq_some_iff.1 hi
   exact ⟨x.fns.take i, x.fns.drop (i + 1), by rw [← h2, List.getElem_cons_drop, List.take_append_drop], by rw [List.length_take]; omega⟩
 obtain ⟨bq, oq, hqe, hbq, hv⟩ := rowk HX8.out.2 hfe
 try dsimp only at hqe
 subst hqe
 rw [hfl] at hv
 obtain ⟨⟨pp, pv, pr, pb, cp, cv, cr, cb⟩, e0, e1, e2, e3, e4, hok⟩ := Fnc.At.all hv
 have hBigF : fn.params.length + fn.vars.length ≤ 2000000 * 2 := by
   have := fnsBig_mem x.fns fn (List.mem_of_getElem? hi); have := HA.out.2.2.2.1; omega
 have HEn := Lib.hid (enter_any x ⟨p, some ⟨bq, oq, none⟩, c, d⟩ i fn N w8 HX8.out hN8 hi (by omega))
 unfold Prg.v at HEn
 try dsimp only at HEn
 have HI := Lib.hid hi
 have HBf := Lib.hid hBigF
 have HOk := Lib.hid hok
 have HE := Lib.hid (fun (W : World) (hB : Below w8.heap.size w8 W) => show W.cell? ⟨bq, oq + i * 5, none⟩ = some (.string (str fn.name)) ∧ W.cell? ⟨bq, oq + i * 5 + 1, none⟩ = some (.slice pp fn.params.length cp) ∧ W.cell? ⟨bq, oq + i * 5 + 2, none⟩ = some (.slice pv fn.vars.length cv) ∧ W.cell? ⟨bq, oq + i * 5 + 3, none⟩ = some (.slice pr fn.rets.length cr) ∧ W.cell? ⟨bq, oq + i * 5 + 4, none⟩ = some (.slice pb fn.body.len cb) from
   have hbw : bq < w8.heap.size := by omega
   ⟨(hB.cell (p := ⟨bq, _, none⟩) hbw).trans e0, (hB.cell (p := ⟨bq, _, none⟩) hbw).trans e1, (hB.cell (p := ⟨bq, _, none⟩) hbw).trans e2, (hB.cell (p := ⟨bq, _, none⟩) hbw).trans e3, (hB.cell (p := ⟨bq, _, none⟩) hbw).trans e4⟩)
 have HN8 := Lib.hid hN8
 clear hfe hfl hbq hv e0 e1 e2 e3 e4 hok hi hBigF hf hN8
 go_wp2_with fail
 refine HEn.out.mono ?_
 rintro z w9 ⟨⟨g, v, rfl, hg, hCs⟩, hB9⟩
 have HB9 := Lib.hid (HB8.out.trans (hB9.mono HB8.out.size))
 have HBm9 := Lib.hid (HBm8.out.later hB9)
 have HG := Lib.hid (And.intro hg (And.intro hB9.size (lt_blk hCs.k)))
 clear p0 p1 p2 p3 p4 p5
 obtain ⟨p0, p1, _, _, _, _⟩ := HP.out w9 HB9.out
 obtain ⟨e0, e1, e2, e3, e4⟩ := HE.out w9 hB9
 obtain ⟨wa, hwa, ka, hBa, hza⟩ := one_alloc w9 (.cells #[.string (str fn.name), .slice pp fn.params.length cp, .slice pv fn.vars.length cv, .slice pr fn.rets.length cr, .slice pb fn.body.len cb] 48)
 have HCa := Lib.hid (hCs.later hBa)
 have HBma := Lib.hid (HBm9.out.later hBa)
 have HK := Lib.hid (fun (W : World) (hB : Below wa.heap.size wa W) => show W.cell? ⟨w9.heap.size, 1, none⟩ = some (.slice pp fn.params.length cp) ∧ W.cell? ⟨w9.heap.size, 2, none⟩ = some (.slice pv fn.vars.length cv) from ⟨cell_blk ((hB.block _ (lt_blk ka)).trans ka) rfl, cell_blk ((hB.block _ (lt_blk ka)).trans ka) rfl⟩)
 have HBa := Lib.hid (HB9.out.trans (hBa.mono HB9.out.size))
 have hOka : fn.Ok wa N ⟨pp, pv, pr, pb, cp, cv, cr, cb⟩ := HOk.out.later ((hB9.trans (hBa.mono hB9.size)).mono HN8.out) (Nat.le_refl N)
 have HNa := Lib.hid (show N ≤ wa.heap.size from Nat.le_trans HN8.out (Nat.le_trans hB9.size hBa.size))
 have H1 := Lib.hid (fun (W : World) (hB : Below wa.heap.size wa W) => vr_src (hOka.1.imp (Nat.le_refl N) (Vr.At.later (hB.mono HNa.out))))
 have H2 := Lib.hid (fun (W : World) (hB : Below wa.heap.size wa W) => vr_src (hOka.2.1.imp (Nat.le_refl N) (Vr.At.later (hB.mono HNa.out))))
 have HGa := Lib.hid (show v.ownBlock ≠ none → ∀ k, v.ownBlock = some k → k < w9.heap.size from fun _ k hk => (hCs.r.lt k hk).2)
 have HZa := Lib.hid hza
 have HWa := Lib.hid hwa
 clear hCs hB9 hBa hOka hza ka hwa HEn hg

 go_upto_region 13 with fail
 erw [HWa.out]
 clear p0 p1 e0 e1 e2 e3 e4
 obtain ⟨l, hl⟩ : ∃ l, l = fn.params ++ fn.vars := ⟨_, rfl⟩
 have HL := Lib.hid hl
 clear hl
 have hbf := HBf.out
 have hX : Below wa.heap.size wa wa.drew := (Below.refl _ _).drew
 obtain ⟨i0, hi9, hz0, hz1, hz2⟩ := info_parts infoVr
 refine wp_region_held_drew (S := fun W => W.cell? ⟨w9.heap.size, 1, none⟩ = some (.slice pp fn.params.length cp) ∧ W.cell? ⟨w9.heap.size, 2, none⟩ = some (.slice pv fn.vars.length cv)) (by kernel_rfl) ?_ (fun hHeld => ?_)
 · exact HK.out _ hX
 refine tq 0 ?_
 refine tq 1 ?_
 refine tq 3 ?_
 refine tq 4 ?_
 obtain ⟨v1, wb, hap, hown, hgr⟩ := run_app (P := Tryz.prog) wa.drew wa.heap.size 46 46 58 i0 _ 4 40 Tryz.underlying46 hi9 hz0 hz1 hz2 rfl (by decide) (.slice none 0 0) 0 [] ⟨rfl, .inl ⟨rfl, rfl⟩⟩ pp fn.params.length cp (vrCells fn.params) (H1.out _ hX) (vr_one fn.params) (by unfold maxLen; omega) (by omega) (Nat.le_refl _)
 rw [Nat.zero_add, List.nil_append] at hown
 have hX2 : Below wa.heap.size wa wb := below_grown (e := 58) (n := 0) (size := 4) (xs := []) hX hgr (Nat.le_refl _) ⟨rfl, .inl ⟨rfl, rfl⟩⟩
 replace hX := hX2
 refine wpAnyH_ready (rs := [2]) (by kernel_rfl) (by simp) ?_
 refine rdy rfl (fun K hK => ?_) AllReadyH.nil
 refine Lib.wp_append_run _ _ _ _ _ rfl _ _ rfl rfl _ _ hap ?_
 refine hK.out _ _ ?_ (fun hHeld => ?_)
 · exact HK.out _ hX
 clear hK K
 try simp only [Act.put, List.setIfInBounds_toArray, List.set_cons_zero, List.set_cons_succ]
 obtain ⟨v2, wm, hap2, hown2, hgr2⟩ := run_app (P := Tryz.prog) wb wa.heap.size 46 46 58 i0 _ 4 40 Tryz.underlying46 hi9 hz0 hz1 hz2 rfl (by decide) v1 fn.params.length (vrCells fn.params) hown pv fn.vars.length cv (vrCells fn.vars) (H2.out _ hX) (vr_one fn.vars) (by unfold maxLen; omega) (by omega) hX.size
 have hX3 : Below wa.heap.size wa wm := below_grown hX hgr2 hX.size hown
 replace hX := hX3
 have hO2 : wm.ownsRow wa.heap.size 58 4 v2 l.length (vrCells l) := by rw [HL.out]; simpa [vrCells] using hown2
 refine wpAnyH_ready (rs := [5]) (by kernel_rfl) (by simp) ?_
 refine rdy rfl (fun K hK => ?_) AllReadyH.nil
 refine Lib.wp_append_run _ _ _ _ _ rfl _ _ rfl rfl _ _ hap2 ?_
 refine hK.out _ _ ?_ (fun hHeld => ?_)
 · exact HK.out _ hX
 clear hK K
 try simp only [Act.put, List.setIfInBounds_toArray, List.set_cons_zero, List.set_cons_succ]
 refine tq 6 ?_
 refine wpAnyH_done (by kernel_rfl) ?_ _
 have hlm : l.length ≤ 140737488355328 := by rw [HL.out, List.length_append]; omega
 obtain ⟨pl, cl, hv2, hrow⟩ := own_row hO2 hlm
 have HRb := Lib.hid (row_blk hO2 hv2)
 have HRow := Lib.hid hrow
 subst hv2
 have HXc := Lib.hid hX
 have HCc := Lib.hid (HCa.out.later hX)
 have HBmc := Lib.hid (HBma.out.later hX)
 have HBc := Lib.hid (HBa.out.trans (hX.mono HBa.out.size))
 clear hO2 hrow hX hX2 hX3 hown hown2 hgr hgr2 hap hap2 hi9 hz0 hz1 hz2 hbf hHeld H1 H2 HK
 have HUn := Lib.hid (show newB nz (rnm x.regs ++ vnm (fn.params ++ fn.vars)) = true by
   obtain ⟨_, h2, _⟩ := (may_zero x).1 HM.out
   unfold namesB at h2
   have h3 := List.all_eq_true.1 (Bool.and_eq_true _ _ ▸ h2).2 fn (List.mem_of_getElem? HI.out)
   rw [own_var] at h3
   unfold varN at h3
   rw [Bool.and_eq_true, Bool.and_eq_true] at h3
   exact h3.1.1)
 have HPa := Lib.hid (show fn.params.all Vr.par = true by
   obtain ⟨_, _, _, h2, _⟩ := (may_zero x).1 HM.out
   have h3 := List.all_eq_true.1 h2 fn (List.mem_of_getElem? HI.out)
   unfold Fnc.varsB at h3
   exact (Bool.and_eq_true _ _ ▸ h3).1)
 go_upto_block 0 with fail

 go_cut [18] from 92 to 129 (fun _ wx => ∃ (k : Nat) (Fm : List UInt8 → Option Bool), Hid (k = ws.length ∨ (k = (fn.params ++ fn.vars).length ∧ k ≤ ws.length)) ∧ Hid (k ≤ (fn.params ++ fn.vars).length) ∧ Hid (Cs wx w8.heap.size g x ⟨p, some ⟨bq, oq, none⟩, c, d⟩ i v (lvL fn ws k) 0 0) ∧ Hid (Fed x fn ws k Fm) ∧ Hid (Bm wx mb Fm) ∧ Hid (Fw (fun b => b = mb ∨ v.ownBlock = some b) wm wx))
 case first => as_aux_lemma =>
   go_wp2_with fail
   go_loopw [18] (fun j wr => ∃ (k : Nat) (Fm : List UInt8 → Option Bool), j = .int .i64 k ∧ k ≤ l.length ∧ k ≤ ws.length ∧ Hid (Cs wr w8.heap.size g x ⟨p, some ⟨bq, oq, none⟩, c, d⟩ i v (lvL fn ws k) 0 0) ∧ Hid (Fed x fn ws k Fm) ∧ Hid (Bm wr mb Fm) ∧ Hid (Fw (fun b => b = mb ∨ v.ownBlock = some b) wm wr)) (fun j _ => l.length - (intOf j).toNat)
   case atStart => exact ⟨0, fun _ => none, rfl, Nat.zero_le _, Nat.zero_le _, Lib.hid (by rw [show lvL fn ws 0 = L0 fn by simp [lvL]]; exact HCc.out), Lib.hid (fed_zero _ _ _), HBmc, Lib.hid (Fw.refl _ _)⟩
   case round =>
     obtain ⟨k, Fm, rfl, hkl, hkw, hC, hFe, hBm, hFw⟩ := hrel
     by_cases a1 : k < l.length
     rotate_left
     · have HEn := Lib.hid (show k = ws.length ∨ (k = (fn.params ++ fn.vars).length ∧ k ≤ ws.length) from .inr ⟨by rw [← HL.out]; omega, hkw⟩)
       have HEm := Lib.hid (show k ≤ (fn.params ++ fn.vars).length by rw [← HL.out]; exact hkl)
       go_wp2_with fail
       go_meet
       exact ⟨k, Fm, HEn, HEm, hC, hFe, hBm, hFw⟩
     by_cases a2 : k < ws.length
     rotate_left
     · have HEn := Lib.hid (show k = ws.length ∨ (k = (fn.params ++ fn.vars).length ∧ k ≤ ws.length) from .inl (by omega))
       have HEm := Lib.hid (show k ≤ (fn.params ++ fn.vars).length by rw [← HL.out]; exact hkl)
       go_wp2_with fail
       go_meet
       exact ⟨k, Fm, HEn, HEm, hC, hFe, hBm, hFw⟩
     obtain ⟨t, ht⟩ : ∃ t, ws[k]? = some t := ⟨_, List.getElem?_eq_getElem a2⟩
     obtain ⟨y, hy⟩ : ∃ y, l[k]? = some y := ⟨_, List.getElem?_eq_getElem a1⟩
     have hLk : (lvL fn ws k).length = l.length := by rw [lvL_len fn ws k hkw (by rw [← HL.out]; exact hkl), HL.out]
     obtain ⟨u, hu⟩ : ∃ u, (lvL fn ws k)[k]? = some u := ⟨_, List.getElem?_eq_getElem (by omega)⟩
     obtain ⟨rb, cap, hv⟩ : ∃ rb cap, v = .slice (some ⟨rb, 0, none⟩) (lvL fn ws k).length cap := by
       rcases hC.out.r.2 with ⟨_, h0⟩ | ⟨rb, cap, _, hv, _⟩
       · omega
       · exact ⟨rb, cap, hv⟩
     subst hv
     have HU9 := Lib.hid (show (boolCells (lvL fn ws k))[k]? = some (.bool u) by unfold boolCells; rw [List.getElem?_map, hu]; rfl)
     have HLk := Lib.hid (show k < (lvL fn ws k).length by omega)
     have hBr : Below w2.heap.size w2 wr := HBc.out.trans (hFw.out.below HBc.out.size (fun b hb => by
       rcases hb with rfl | hb
       · exact HZ7.out.2
       · exact Nat.le_trans HB8.out.size (own_ty hC.out.r hb).1))
     have HWr := Lib.hid (HWo.out _ (HU.out _ hBr))
     obtain ⟨bw, ow, hpw, hbw, hwt⟩ : ∃ b o, pw = some ⟨b, o, none⟩ ∧ b < N ∧ BAt wr t b (o + k * 1) := by
       rcases HWr.out.2 with h0 | ⟨b, o, hp, hb, hr⟩
       · omega
       · exact ⟨b, o, hp, hb, Row.get hr ht⟩
     subst hpw
     rw [Nat.mul_one] at hwt
     obtain ⟨bl, ol, hpl, hbl, hvy⟩ : ∃ b o, pl = some ⟨b, o, none⟩ ∧ b < wm.heap.size ∧ Vr.At wm y b (o + k * 4) := by
       rcases HRow.out.2 with h0 | ⟨b, o, hp, hb, hr⟩
       · omega
       · exact ⟨b, o, hp, hb, Row.get hr hy⟩
     subst hpl
     have hbl2 : wa.heap.size ≤ bl := by obtain ⟨b9, e9, h9, _⟩ := HRb.out (by omega); cases e9; exact h9
     have hrbl : rb < w9.heap.size := HGa.out (by simp [Value.ownBlock]) rb rfl
     have HRl := Lib.hid (And.intro hbl2 (And.intro hbl hrbl))
     have HVy := Lib.hid hvy
     have HWt := Lib.hid (fun (W : World) (hW : Below wr.heap.size wr W ∨ ∃ wd, Below wr.heap.size wr wd ∧ W = wd.setCell ⟨rb, k, none⟩ (.bool t)) => show BAt W t bw (ow + k) from by
       have hlt : bw < wr.heap.size := World.block_lt_of_cell? _ _ hwt
       have hrN : N ≤ rb := Nat.le_trans HN8.out (own_ty hC.out.r (k := rb) rfl).1
       rcases hW with hW | ⟨wd, hW, rfl⟩
       · exact (hW.cell (p := ⟨bw, ow + k, none⟩) hlt).trans hwt
       · have e1 := Below.heap_setCell wd ⟨rb, k, none⟩ (.bool t) bw (show bw ≠ rb by omega)
         have e2 := (hW.cell (p := ⟨bw, ow + k, none⟩) hlt).trans hwt
         unfold BAt at *
         rw [← e2]
         simp [World.cell?, e1])
     have c3 : wr.cell? ⟨g, 3, none⟩ = some (.slice (some ⟨rb, 0, none⟩) (lvL fn ws k).length cap) := cell_blk hC.out.k rfl
     have c4 : wr.cell? ⟨bw, ow + k, none⟩ = some (.bool t) := hwt
     have hkk : k < (lvL fn ws k).length := HLk.out
     have HT := Lib.hid (And.intro ht (And.intro hy hLk))
     have HD := Lib.hid (show Below wr.heap.size wr wr.drew from (Below.refl _ _).drew)
     have HSz := Lib.hid (show wr.drew.heap.size = wr.heap.size from rfl)
     have HBr := Lib.hid hBr
     clear hwt hvy hbl hbl2 hrbl hu ht hy hBr hbw
     go_upto_region 17 with fail
     refine bgk 10 (fun W => W.cell? ⟨g, 3, none⟩ = some (.slice (some ⟨rb, 0, none⟩) (lvL fn ws k).length cap) ∧ W.cell? ⟨bw, ow + k, none⟩ = some (.bool t)) (⟨c3, c4⟩) (fun hHeld => ?_)
     clear c3 c4
     generalize wr.drew = wd at hHeld HD HSz ⊢
     have HCd := Lib.hid (hC.out.later HD.out)
     have HFd := Lib.hid (hFw.out.trans (Fw.of_below (S := fun b => b = mb ∨ (Value.slice (some ⟨rb, 0, none⟩) (lvL fn ws k).length cap).ownBlock = some b) HD.out))
     have HBmd := Lib.hid (hBm.out.later HD.out)
     have z1 : wd.cell? ⟨rb, k, none⟩ = some (.bool u) := (HCd.out.r.cellAt k (by have := HLk.out; omega)).trans HU9.out
     have z2 : wd.frozen? ⟨rb, k, none⟩ = false := HCd.out.r.frozenAt k
     refine tz 0 ?_
     refine tz 1 ?_
     refine tz 2 ?_
     refine tl 3 ?_
     refine tz 4 ?_
     refine tz 5 ?_
     refine tz 6 ?_
     refine tz 7 ?_
     refine tl 8 ?_
     refine tz 9 ?_
     refine rdb 10 rfl (fun K hK => ?_)
     go_simp
     refine hK.out _ _ ?_
     clear hK K
     try simp only [Act.put, List.setIfInBounds_toArray, List.set_cons_zero, List.set_cons_succ]
     refine dnk ?_ (by kernel_rfl) _
     clear hHeld
     have HCe := Lib.hid (show Cs (wd.setCell ⟨rb, k, none⟩ (.bool t)) w8.heap.size g x ⟨p, some ⟨bq, oq, none⟩, c, d⟩ i (.slice (some ⟨rb, 0, none⟩) (lvL fn ws k).length cap) (lvL fn ws (k + 1)) 0 0 from by
       have e := HCd.out.put k t
       rw [lvL_set fn ws k t HT.out.1 (by rw [← HL.out]; omega)] at e
       exact e)
     have HFe := Lib.hid (HFd.out.trans ((Fw.of_but ((But.refl rb wd).set k (.bool t))).imp (fun b hb => .inr (by rw [hb]; rfl))))
     have HBme := Lib.hid (show Bm (wd.setCell ⟨rb, k, none⟩ (.bool t)) mb Fm from HBmd.out.of_block (Below.heap_setCell _ ⟨rb, k, none⟩ _ _ (show mb ≠ rb from fun e => by
       obtain ⟨_, cur, hc⟩ := own_ty HCd.out.r (k := rb) rfl
       obtain ⟨es, clock, _, h1, _⟩ := HBmd.out
       rw [e, hc] at h1; cases h1)))
     have hd4 := HWt.out (wd.setCell ⟨rb, k, none⟩ (.bool t)) (.inr ⟨wd, HD.out, rfl⟩)
     have hvy := vr_blk (HFe.out.block bl HRl.out.2.1 (fun e => by
       rcases e with e | e
       · have := HBma.out.lt; have := HRl.out.1; omega
       · have e2 : rb = bl := by simpa [Value.ownBlock] using e
         have := HRl.out; have := HZa.out; omega)) HVy.out
     generalize wd.setCell ⟨rb, k, none⟩ (.bool t) = We at *
     obtain ⟨y0, y1, y2, y3⟩ := hvy
     have d4 : We.cell? ⟨bw, ow + k, none⟩ = some (.bool t) := hd4
     clear hd4 z1 z2
     have hyl := HT.out.2.1
     rw [HL.out] at hyl
     by_cases hk1 : y.kind = 1
     · have hk1b : (y.kind == 1) = true := by simpa using hk1
       have HFn := Lib.hid (fed_word HUn.out hyl HT.out.1 hFe.out)
       have HDe := Lib.hid (show Below We.heap.size We We.drew from (Below.refl _ _).drew)
       have HSe := Lib.hid (show We.drew.heap.size = We.heap.size from rfl)
       clear hyl
       go_upto_region 19 with fail
       refine bgk 10 (fun W => W.cell? ⟨bl, ol + k * 4, none⟩ = some (.string (str y.name)) ∧ W.cell? ⟨bw, ow + k, none⟩ = some (.bool t)) (⟨y0, d4⟩) (fun hHeld => ?_)
       clear y0 y1 y2 y3 d4
       generalize We.drew = wf at hHeld HDe HSe ⊢
       have HCf := Lib.hid (HCe.out.later HDe.out)
       have HFf := Lib.hid (HFe.out.trans (Fw.of_below (S := fun b => b = mb ∨ (Value.slice (some ⟨rb, 0, none⟩) (lvL fn ws k).length cap).ownBlock = some b) HDe.out))
       have HBmf := Lib.hid (HBme.out.later HDe.out)
       obtain ⟨wg, hput, hBg, hbut⟩ := HBmf.out.put (P := Tryz.prog) (t := 49) Tryz.underlying49 Tryz.underlying9 y.name t
       have HBg := Lib.hid hBg
       have HBut := Lib.hid hbut
       have HPut := Lib.hid hput
       clear hBg hbut hput
       refine tz 0 ?_
       refine tz 1 ?_
       refine tz 2 ?_
       refine tz 3 ?_
       refine tz 4 ?_
       refine tl 5 ?_
       refine tz 6 ?_
       refine tz 7 ?_
       refine tz 8 ?_
       refine tl 9 ?_
       refine rdb 10 rfl (fun K hK => ?_)
       have hput := HPut.out
       go_simp
       refine hK.out _ _ ?_
       clear hK K
       try simp only [Act.put, List.setIfInBounds_toArray, List.set_cons_zero, List.set_cons_succ]
       refine dnk ?_ (by kernel_rfl) _
       clear hHeld
       have HCg := Lib.hid (HCf.out.fwd (Fw.of_but HBut.out) (fun b hb => by subst hb; obtain ⟨es, clock, _, h1, _⟩ := HBmf.out; exact ⟨_, _, h1⟩))
       have HFg := Lib.hid (HFf.out.trans ((Fw.of_but HBut.out).imp (fun b hb => .inl hb)))
       go_wp2_with fail
       go_roundw
       case rel => exact ⟨k + 1, _, by go_num, by omega, by omega, HCg, HFn, HBg, HFg⟩
       case measure => simp [intOf]; omega
     · have hk1b : (y.kind == 1) = false := by simpa using hk1
       have HFn := Lib.hid (fed_other hyl hk1 hFe.out)
       clear hyl
       go_wp2_with fail
       go_roundw
       case rel => exact ⟨k + 1, Fm, by go_num, by omega, by omega, HCe, HFn, HBme, HFe⟩
       case measure => simp [intOf]; omega
 case rest =>
 obtain ⟨k, Fm, hkE, hkl, hC, hFe, hBm, hFw⟩ := hcut

 have hBc2 : Below w2.heap.size w2 wc := HBc.out.trans (hFw.out.below HBc.out.size (fun b hb => by
   rcases hb with rfl | hb
   · exact HZ7.out.2
   · exact Nat.le_trans HB8.out.size (own_ty hC.out.r hb).1))
 have HBd := Lib.hid hBc2
 have hg2 : w2.heap.size ≤ g := Nat.le_trans HB8.out.size HG.out.1
 have HG2 := Lib.hid hg2
 have hNc : N ≤ wc.heap.size := Nat.le_trans HA.out.1 (HU.out _ hBc2).size
 obtain ⟨V, hV⟩ : ∃ V, V = lvR x fn e Fm := ⟨_, rfl⟩
 have HV := Lib.hid hV
 have HLv := Lib.hid (level_fun x ⟨p, some ⟨bq, oq, none⟩, c, d⟩ i fn e pe ce mb N Fm wc (HX.out _ (HU.out _ hBc2)) hNc HI.out (HEo.out _ (HU.out _ hBc2)) HA.out.2.1 HA.out.2.2.1 HEs.out HM.out hBm.out)
 rw [← hV] at HLv
 unfold Prg.v Ex.val at HLv
 dsimp only at HLv
 obtain ⟨p0, p1, p2, p3, p4, p5⟩ := HP.out wc hBc2
 clear hBc2 hNc hV hg2
 go_wp2_with fail
 refine HLv.out.mono ?_
 rintro z w14 ⟨rfl, hB14⟩
 have HB14 := Lib.hid (HBd.out.trans (hB14.mono HBd.out.size))
 have HC14 := Lib.hid (hC.out.later hB14)
 clear hB14 HLv p0 p1 p2 p3 p4 p5 hC
 obtain ⟨p0, p1, p2, p3, p4, p5⟩ := HP.out w14 HB14.out
 have hN14 : N ≤ w14.heap.size := Nat.le_trans HA.out.1 (HU.out _ HB14.out).size
 obtain ⟨C, hCk⟩ : ∃ C, C = e.chk x fn 1 := ⟨_, rfl⟩
 have HCk := Lib.hid hCk
 have HEx := Lib.hid (rexpr_to _ e (Nat.lt_succ_self _) x ⟨p, some ⟨bq, oq, none⟩, c, d⟩ i fn 1 pe ce N w14 (HX.out _ (HU.out _ HB14.out)) hN14 HI.out (by have := HBf.out; omega) (HEo.out _ (HU.out _ HB14.out)) (by decide))
 rw [← hCk] at HEx
 unfold Prg.v Ex.val at HEx
 dsimp only at HEx
 clear hN14 hCk
 go_wp2_with fail
 refine HEx.out.mono ?_
 rintro z w15 ⟨rfl, hB15⟩
 have HB15 := Lib.hid (HB14.out.trans (hB15.mono HB14.out.size))
 have HC15 := Lib.hid (HC14.out.later hB15)
 clear hB15 HEx p0 p1 p2 p3 p4 p5 HC14
 by_cases hC0 : C = 0
 rotate_left
 · have hne : ((C : Int) != 0) = true := by simp; omega
   have heq : ((C : Int) == (C : Int)) = true := by simp
   have hVe : V = (false, C) := by rw [HV.out, HCk.out]; exact lv_chk (by rw [← HCk.out]; exact hC0)
   subst hVe
   have HX1 := Lib.hid (HU.out _ HB15.out)
   go_wp2_with fail
   refine (known_any w15).mono ?_
   rintro z wk ⟨rfl, hBk⟩
   have HY := Lib.hid (HX1.out.trans (hBk.mono HX1.out.size))
   clear hBk
   go_wp2_with fail
   go_ret
   exact ⟨rfl, HY.out⟩
 subst hC0
 have HCk0 := Lib.hid (show e.chk x fn 1 = 0 from HCk.out.symm)
 obtain ⟨p0, p1, p2, p3, p4, p5⟩ := HP.out w15 HB15.out
 have hN15 : N ≤ w15.heap.size := Nat.le_trans HA.out.1 (HU.out _ HB15.out).size
 obtain ⟨R, hR⟩ : ∃ R, R = e.any2 (fun s => decide (ws.length ≤ posN fn s)) := ⟨_, rfl⟩
 have HR := Lib.hid hR
 have HLk := Lib.hid (rlk_to _ e (Nat.lt_succ_self _) x ⟨p, some ⟨bq, oq, none⟩, c, d⟩ i fn ws.length 1 pe ce N w15 (HX.out _ (HU.out _ HB15.out)) hN15 HI.out (by have := HBf.out; omega) HUn.out hmw (HEo.out _ (HU.out _ HB15.out)) HCk0.out)
 rw [← hR] at HLk
 unfold Prg.v Ex.val at HLk
 dsimp only at HLk
 clear hN15 hR
 go_wp2_with fail
 refine HLk.out.mono ?_
 rintro z w16 ⟨rfl, hB16⟩
 have HB16 := Lib.hid (HB15.out.trans (hB16.mono HB15.out.size))
 have HC16 := Lib.hid (HC15.out.later hB16)
 clear hB16 HLk p0 p1 p2 p3 p4 p5 HC15
 cases hRc : R with
 | true =>
   have hVe : V = (false, 2) := by rw [HV.out]; exact lv_lack HCk0.out hFe.out hkE.out (by rw [← HR.out]; exact hRc)
   subst hVe
   have HX1 := Lib.hid (HU.out _ HB16.out)
   clear hRc
   go_wp2_with fail
   refine (known_any w16).mono ?_
   rintro z wk ⟨rfl, hBk⟩
   have HY := Lib.hid (HX1.out.trans (hBk.mono HX1.out.size))
   clear hBk
   go_wp2_with fail
   go_ret
   exact ⟨rfl, HY.out⟩
 | false =>
   have hVe := lv_val HCk0.out hFe.out hkE.out (show e.any2 (fun s => decide (ws.length ≤ posN fn s)) = false by rw [← HR.out]; exact hRc)
   rw [← HV.out] at hVe
   have HVe := Lib.hid hVe
   obtain ⟨p0, p1, p2, p3, p4, p5⟩ := HP.out w16 HB16.out
   have hN16 : N ≤ w16.heap.size := Nat.le_trans HA.out.1 (HU.out _ HB16.out).size
   have hlL : (lvL fn ws k).length = (fn.params ++ fn.vars).length := lvL_len fn ws k (by rcases hkE.out with h1 | h1 <;> omega) hkl.out
   have HXp := Lib.hid (rxl_to _ e (Nat.lt_succ_self _) x ⟨p, some ⟨bq, oq, none⟩, c, d⟩ i fn (ggL fn (lvL fn ws k)) 1 g w8.heap.size N v (lvL fn ws k) 0 0 pe ce w16 (HX.out _ (HU.out _ HB16.out)) hN16 (Nat.le_trans HN8.out HG.out.1) HI.out (by have := HBf.out; omega) HPa.out (told_L HUn.out hlL) HC16.out (HEo.out _ (HU.out _ HB16.out)) HCk0.out)
   obtain ⟨S, hS⟩ : ∃ S, S = e.sl x fn (ggL fn (lvL fn ws k)) := ⟨_, rfl⟩
   obtain ⟨D, hD⟩ : ∃ D, D = e.bd x fn (ggL fn (lvL fn ws k)) := ⟨_, rfl⟩
   rw [← hS, ← hD] at HXp HVe
   unfold Ex.val at HXp
   clear hN16 hlL hRc hVe hS hD
   go_wp2_with fail
   refine HXp.out.mono ?_
   rintro z w17 ⟨rfl, hC17, hF17⟩
   have HX1 := Lib.hid (HU.out _ (HB16.out.trans (hF17.below HB16.out.size (fun b hb => by subst hb; exact HG2.out))))
   have c4 : w17.cell? ⟨g, 4, none⟩ = some (.int .i64 ((erN 0 D : Nat) : Int)) := cell_blk hC17.k rfl
   clear hC17 hF17 HXp p0 p1 p2 p3 p4 p5
   cases D
   · rw [show erN 0 false = 0 by rfl] at c4
     have hVe := HVe.out
     rw [if_neg (by decide)] at hVe
     subst hVe
     clear HVe
     cases S
     · go_wp2_with fail
       refine (known_any w17).mono ?_
       rintro z wk ⟨rfl, hBk⟩
       have HY := Lib.hid (HX1.out.trans (hBk.mono HX1.out.size))
       clear hBk
       go_wp2_with fail
       go_ret
       exact ⟨rfl, HY.out⟩
     · go_wp2_with fail
       refine (known_any w17).mono ?_
       rintro z wk ⟨rfl, hBk⟩
       have HY := Lib.hid (HX1.out.trans (hBk.mono HX1.out.size))
       clear hBk
       go_wp2_with fail
       go_ret
       exact ⟨rfl, HY.out⟩
   · rw [show erN 0 true = 10 by rfl] at c4
     have hVe := HVe.out
     rw [if_pos rfl] at hVe
     subst hVe
     clear HVe
     go_wp2_with fail
     refine (known_any w17).mono ?_
     rintro z wk ⟨rfl, hBk⟩
     have HY := Lib.hid (HX1.out.trans (hBk.mono HX1.out.size))
     clear hBk
     go_wp2_with fail
     go_ret
     exact ⟨rfl, HY.out⟩
end Go.Proofs.YtihmibggonffdaaGreat
