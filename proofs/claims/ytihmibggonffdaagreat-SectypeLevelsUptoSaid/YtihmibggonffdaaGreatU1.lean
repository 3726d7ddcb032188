/- TS6, TL, TM0, TM1, TM2, TM3, U1 as one. -/
import Derived.Test.YtihmibggonffdaaGreatTK3
import Derived.Test.YtihmibggonffdaaGreatTS2
import Derived.Test.YtihmibggonffdaaGreatTS5
import Derived.Test.YtihmibggonffdaaGreatT5
import Derived.Test.YtihmibggonffdaaGreatDF
/- The walker goes through a call: the statement. -/
namespace Go.Proofs.YtihmibggonffdaaGreat
open Go.RowKit Go.ChangeMaps

theorem callR_parts {x : Prg} {fn : Fnc} {f : List UInt8 → Nat} {t : Plc} {y : St} (h : callR x fn f t y = 0) : ∃ k g, calleeOf x.fns y.name 0 = some (k, g) ∧ k < t.fi ∧ y.args.len = g.params.length ∧ y.names.length = g.rets.length := by
 have sq : ∀ {a b : Nat}, seq a b = 0 → a = 0 ∧ b = 0 := fun {a b} h => by
   by_cases h0 : a = 0
   · rw [seq_ok h0] at h; exact ⟨h0, h⟩
   · rw [seq_no h0] at h; exact absurd h h0
 have ak : ∀ {b : Bool} {e : Nat}, e ≠ 0 → ask b e = 0 → b = true := fun {b e} he h => by
   cases b with
   | true => rfl
   | false => rw [ask_no rfl] at h; exact absurd h he
 unfold callR at h
 cases hc : calleeOf x.fns y.name 0 with
 | none => rw [hc] at h; cases h
 | some p =>
   obtain ⟨k, g⟩ := p
   rw [hc] at h
   dsimp only at h
   obtain ⟨h1, h⟩ := sq h
   obtain ⟨_, h3⟩ := sq h
   have h1 := ak (by decide) h1
   unfold fitR at h3
   have h3 := ak (by decide) h3
   simp only [Bool.and_eq_true, decide_eq_true_eq] at h1 h3
   exact ⟨k, g, rfl, h1, h3.1, h3.2⟩
theorem callee_get : ∀ (l : List Fnc) (nm : List UInt8) (j k : Nat) (g : Fnc), calleeOf l nm j = some (k, g) → j ≤ k ∧ l[k - j]? = some g
 | [], _, _, _, _, h => by cases h
 | g' :: r, nm, j, k, g, h => by
   rw [calleeOf] at h
   split at h
   · cases h; simp
   · have ⟨h1, h2⟩ := callee_get r nm (j + 1) k g h
     refine ⟨by omega, ?_⟩
     rw [show k - j = (k - (j + 1)) + 1 by omega]
     simpa using h2

set_option maxRecDepth 100000 in
set_option maxHeartbeats 12800000 in
theorem stmt6_walk (x : Prg) (s : PrgP) (i : Nat) (fn : Fnc) (f : List UInt8 → Nat) (cf : Nat → Nat → Rc) (wb cb pb N : Nat) (w0 : World) (hi : x.fns[i]? = some fn) (y : St) (hkd : y.kind = 6) (hcal : ∀ (k : Nat) (g : Fnc), x.fns[k]? = some g → k < i → ∀ (W : World) (n : Nat), n ≤ 65536 → Ws W N wb cb pb x s w0 n → Calls Tryz.prog 28 #[.pointer (some ⟨wb, 0, none⟩), .int .i64 (k : Int)] W (FnEnd (cf k n) N wb cb pb x s w0 W)) (hcf : ∀ (k n : Nat) (l : List Bool) (n' : Nat) (g : Fnc), x.fns[k]? = some g → cf k n = .ok l n' → l.length = g.rets.length) (deep : Nat) (ar : List (List UInt8)) (b o mb n : Nat) (T : List (List UInt8)) (w : World) (hchk : y.chk x fn f i deep ar = 0) (hy : y.At (zc w0) N b o) (hb : b < N) (hbig : y.big ≤ 1048576) (hW : Ws w N wb cb pb x s w0 n) (hM : Mp w mb (mem T)) (hmN : N ≤ mb) (hmc : mb ≠ cb) (hn : n ≤ 65536) :
   Calls Tryz.prog 87 #[.pointer (some ⟨wb, 0, none⟩), .int .i64 (i : Int), .pointer (some ⟨b, o, none⟩), .map (some mb)] w (GoEnd (y.go x fn cf T n) N wb cb mb pb x s w0 w) := by

 obtain ⟨st, hcl, hok⟩ := hy.open
 have heA : y.e.At (zc w0) N b (o + 3) ∧ y.a.At (zc w0) N b (o + 7) := by obtain ⟨kd, nm, ns, e, a, as', lo, hi, bd, el⟩ := y; exact ⟨hy.2.2.1, hy.2.2.2.1⟩
 obtain ⟨W1, hW1, k0, k1, k2, hB1, hz1⟩ := alloc3 w (.cells #[.pointer (some ⟨wb, 0, none⟩)] 115) (.cells #[.int .i64 (i : Int)] 3) (.cells #[.pointer (some ⟨b, o, none⟩)] 140)
 have hlt := And.intro (lt_blk hW.wk) (And.intro (lt_blk hW.cb_map.choose_spec.choose_spec) hM.lt)
 have hl := hW.lts
 have HS := Lib.hid (fun (W : World) (h : Fw (fun k => k = wb ∨ k = cb ∨ k = mb) W1 W) => show W.cell? ⟨w.heap.size, 0, none⟩ = some (.pointer (some ⟨wb, 0, none⟩)) ∧ W.cell? ⟨w.heap.size + 1, 0, none⟩ = some (.int .i64 (i : Int)) ∧ W.cell? ⟨w.heap.size + 1 + 1, 0, none⟩ = some (.pointer (some ⟨b, o, none⟩)) ∧ W.cell? ⟨b, o, none⟩ = some (.int .i64 y.kind) ∧ W.cell? ⟨b, o + 1, none⟩ = some (.string (str y.name)) ∧ W.cell? ⟨b, o + 14, none⟩ = some (.slice st.pb y.body.len st.cb) ∧ W.cell? ⟨b, o + 15, none⟩ = some (.slice st.pl y.els.len st.cl) from by
   have hold : Below N w0 W := (hW.old.trans (hB1.mono hl.2.2.1)).trans (h.below (by omega) (fun k e => by omega))
   have hc : ∀ j v, (y.cells st)[j]? = some v → W.cell? ⟨b, o + j, none⟩ = some v := fun j v hv => (hold.cell (p := ⟨b, o + j, none⟩) hb).trans (zc_cell (hcl j v hv)).1
   exact ⟨cell_blk ((h.block _ (lt_blk k0) (by omega)).trans k0) rfl, cell_blk ((h.block _ (lt_blk k1) (by omega)).trans k1) rfl, cell_blk ((h.block _ (lt_blk k2) (by omega)).trans k2) rfl, hc 0 _ rfl, hc 1 _ rfl, hc 14 _ rfl, hc 15 _ rfl⟩)
 have HW1 := Lib.hid hW1
 have HW_1 := Lib.hid (hW.later hB1)
 have HM_1 := Lib.hid (hM.later hB1)
 have HF0 := Lib.hid (show Fw (fun k => k = wb ∨ k = cb ∨ k = mb) w W1 from Fw.of_below hB1)
 have HF1 := Lib.hid (Fw.refl (fun k => k = wb ∨ k = cb ∨ k = mb) W1)
 have HW1x := Lib.hid (And.intro (hW.later hB1) (hM.later hB1))
 have HEA := Lib.hid heA
 have HOK := Lib.hid hok
 have HBG := Lib.hid (show y.e.size ≤ 3000000 ∧ y.a.size ≤ 3000000 ∧ y.body.big ≤ 1048576 ∧ y.els.big ≤ 1048576 from by have := y.big_eq; omega)
 have HN := Lib.hid (And.intro hmN (And.intro hmc (And.intro hb hn)))
 have HNe := Lib.hid (hW.ne_map hM)
 have HZ := Lib.hid (And.intro hz1 hlt)
 have hgo := St.go_eq x fn cf y T n
 obtain ⟨R, hR⟩ : ∃ R, R = y.go x fn cf T n := ⟨_, rfl⟩
 rw [← hR] at hgo ⊢
 have HCH := Lib.hid hchk
 obtain ⟨k, g, hc, hki, hla, hln⟩ := callR_parts (show callR x fn f (pl0 i ar) y = 0 from by
   have h := (chkS_parts hchk).1
   unfold headS at h
   rw [if_neg (show ¬ y.kind = 1 by omega), if_neg (show ¬ y.kind = 2 by omega), if_neg (show ¬ y.kind = 5 by omega), if_pos hkd] at h
   exact h)
 have hkg : x.fns[k]? = some g := (callee_get _ _ _ _ _ hc).2
 have HC := Lib.hid (call_walk x s i fn cf wb cb pb N w0 hi y b o mb n k deep g T W1 hc hla hln (fun W hW => hcal k g hkg hki W n hn hW) (fun l n' e => hcf k n l n' g hkg e) (chkS_parts hchk).2.2.2.1 hy hb (by have := y.big_eq; omega) (hW.later hB1) (hM.later hB1) hmN hmc)
 clear hcal hcf hki hla hln hkg
 rw [if_neg (show ¬ y.kind = 1 by omega), if_neg (show ¬ y.kind = 2 by omega), if_neg (show ¬ y.kind = 3 by omega), if_neg (show ¬ y.kind = 4 by omega), if_neg (show ¬ y.kind = 5 by omega), if_pos hkd] at hgo
 have e1 : (y.kind == 1) = false := by simp [hkd]
 have e2 : (y.kind == 2) = false := by simp [hkd]
 have e3 : (y.kind == 3) = false := by simp [hkd]
 have e4 : (y.kind == 4) = false := by simp [hkd]
 have e5 : (y.kind == 5) = false := by simp [hkd]
 have e6 : (y.kind == 6) = true := by simp [hkd]
 clear hW1 k0 k1 k2 hB1 hz1 hlt hl heA hok hcl hy hW hM hmN hmc hn hchk hb hbig hR

 rw [hc] at hgo
 dsimp only at hgo
 have HR := Lib.hid hgo
 clear hgo hc
 obtain ⟨b4, b5, b6, c0, c1, c14, c15⟩ := HS.out W1 (Fw.refl _ _)
 go_enter Tryz.func87, Tryz.ntmps87
 go_upto_region 1 with fail
 rw [HW1.out]
 clear HW1
 go_wp2_with fail
 refine HC.out.mono ?_
 intro z w2 h2
 rcases h2 with ⟨hr, hWx, hMx, hFx⟩ | ⟨hr, hFx⟩
 rotate_left
 · have HEnd := Lib.hid (show GoEnd R N wb cb mb pb x s w0 w (Pn _) w2 from .no (HR.out.trans hr) (HF0.out.trans hFx))
   clear hr hFx
   unfold Pn at HEnd ⊢
   go_wp2_with fail
   exact ⟨rfl, HEnd.out⟩
 have HEnd := Lib.hid (show GoEnd R N wb cb mb pb x s w0 w (.returned (.tuple #[])) w2 from .ok (HR.out.trans hr) hWx hMx (HF0.out.trans hFx))
 clear hWx hMx hFx hr
 go_wp2_with fail
 go_end0
 exact HEnd.out
/- The walker goes through any statements and functions of a program that may be. -/
open Go.RowKit Go.ChangeMaps

theorem walk_all (x : Prg) (s : PrgP) (i : Nat) (fn : Fnc) (f : List UInt8 → Nat) (cf : Nat → Nat → Rc) (wb cb pb N : Nat) (w0 : World) (hi : x.fns[i]? = some fn) (hge : CfGe cf)
   (hcal : ∀ (k : Nat) (g : Fnc), x.fns[k]? = some g → k < i → ∀ (W : World) (n : Nat), n ≤ 65536 → Ws W N wb cb pb x s w0 n → Calls Tryz.prog 28 #[.pointer (some ⟨wb, 0, none⟩), .int .i64 (k : Int)] W (FnEnd (cf k n) N wb cb pb x s w0 W)) (hcf : ∀ (k n : Nat) (l : List Bool) (n' : Nat) (g : Fnc), x.fns[k]? = some g → cf k n = .ok l n' → l.length = g.rets.length) :
   ∀ m, StTo x s i fn f cf wb cb pb N w0 m ∧ StsTo x s i fn f cf wb cb pb N w0 m
 | 0 => ⟨fun y h => absurd h (Nat.not_lt_zero _), fun l h => absurd h (Nat.not_lt_zero _)⟩
 | m + 1 => by
   have ih := walk_all x s i fn f cf wb cb pb N w0 hi hge hcal hcf m
   refine ⟨fun y hsz deep ar b o mb n T w h1 h2 h3 h4 h5 h6 h7 h8 h9 => ?_, goStmts_step x s i fn f cf wb cb pb N w0 hi hge m ih.1⟩
   have hq : y.size ≤ m := by omega
   by_cases k1 : y.kind = 1
   · exact stmt1_walk x s i fn f cf wb cb pb N w0 hi y k1 deep ar b o mb n T w h1 h2 h3 h4 h5 h6 h7 h8 h9
   by_cases k2 : y.kind = 2
   · exact stmt2_walk x s i fn f cf wb cb pb N w0 hi y k2 deep ar b o mb n T w h1 h2 h3 h4 h5 h6 h7 h8 h9
   by_cases k3 : y.kind = 3
   · exact stmt3_walk x s i fn f cf wb cb pb N w0 hi y k3 hge m ih.2 hq deep ar b o mb n T w h1 h2 h3 h4 h5 h6 h7 h8 h9
   by_cases k4 : y.kind = 4
   · exact stmt4_walk x s i fn f cf wb cb pb N w0 hi y k4 hge m ih.2 hq deep ar b o mb n T w h1 h2 h3 h4 h5 h6 h7 h8 h9
   by_cases k5 : y.kind = 5
   · exact stmt5_walk x s i fn f cf wb cb pb N w0 hi y k5 hge m ih.2 hq deep ar b o mb n T w h1 h2 h3 h4 h5 h6 h7 h8 h9
   by_cases k6 : y.kind = 6
   · exact stmt6_walk x s i fn f cf wb cb pb N w0 hi y k6 hcal hcf deep ar b o mb n T w h1 h2 h3 h4 h5 h6 h7 h8 h9
   · exact stmt0_walk x s i fn f cf wb cb pb N w0 hi y ⟨k1, k2, k3, k4, k5, k6⟩ deep ar b o mb n T w h1 h2 h3 h4 h5 h6 h7 h8 h9
theorem goF_len (x : Prg) : ∀ (j k n : Nat) (l : List Bool) (n' : Nat) (g : Fnc), x.fns[k]? = some g → goF x j k n = .ok l n' → l.length = g.rets.length
 | 0, _, _, _, _, _, _, h => by cases h
 | j + 1, k, n, l, n', g, hk, h => by
   rw [goF, hk] at h
   dsimp only at h
   split at h
   · cases h
   · cases h; simp
theorem goF_rc (x : Prg) (j i n : Nat) (fn : Fnc) (hi : x.fns[i]? = some fn) : goF x (j + 1) i n = rcOf fn (fn.body.go x fn (goF x j) (parT fn.params) n) := by
 rw [goF, hi]
 dsimp only
 cases fn.body.go x fn (goF x j) (parT fn.params) n <;> rfl
theorem fn_walk (x : Prg) (s : PrgP) (wb cb pb N : Nat) (w0 : World) (deep : Nat) (ar : List (List UInt8)) (hmay : ∀ (i : Nat) (fn : Fnc), x.fns[i]? = some fn → ∃ f, fn.body.chk x fn f i deep ar = 0 ∧ fn.body.big ≤ 1048576) :
   ∀ (j i : Nat) (fn : Fnc), i < j → x.fns[i]? = some fn → ∀ (W : World) (n : Nat), n ≤ 65536 → Ws W N wb cb pb x s w0 n → Calls Tryz.prog 28 #[.pointer (some ⟨wb, 0, none⟩), .int .i64 (i : Int)] W (FnEnd (goF x j i n) N wb cb pb x s w0 W)
 | 0, _, _, h, _, _, _, _, _ => absurd h (Nat.not_lt_zero _)
 | j + 1, i, fn, hij, hi, W, n, hn, hW => by
   have ih := fn_walk x s wb cb pb N w0 deep ar hmay j
   rw [goF_rc x j i n fn hi]
   obtain ⟨f, hm1, hm2⟩ := hmay i fn hi
   exact function_walk x s i fn f (goF x j) wb cb pb N w0 hi (fn.body.size + 1) (walk_all x s i fn f (goF x j) wb cb pb N w0 hi (goF_ge x j) (fun k g hk hki W n hn hW => ih k g (by omega) hk W n hn hW) (goF_len x j) (fn.body.size + 1)).2 (Nat.lt_succ_self _) n W deep ar hm1 hm2 hW hn
/- What catches the panic of Check. -/
open Go.RowKit Go.ChangeMaps

set_option maxHeartbeats 1600000 in
theorem sidle_any (p : Addr) (w : World) :
   CallsD Tryz.prog 58 #[.pointer (some p)] .returning w fun e u' w' => e = .returned (.tuple #[]) ∧ u' = .returning ∧ w' = w := by
 refine callsD_of_wpS Tryz.func58 rfl fun c₀ cs hu => ?_
 apply wpS_seq
 apply wpS_region
 simp [wpOpsS, go_sem, recoverD, hu, Tryz.ntmps58, Exit.thenS]
 refine wpS_of_wp ?_
 go_wp2
 cases c₀
 simp_all [bodyPostS, results, Tryz.results58]
set_option maxHeartbeats 1600000 in
theorem scaught1_any (g : Nat) (r : Int) (older : List PanicEntry) (w : World) (hg : w.heap[g]? = some (.cells #[.int .i64 0] 29 (0, 0))) :
   CallsD Tryz.prog 58 #[.pointer (some ⟨g, 0, none⟩)] (.panicking ({ v := .iface 29 (.int .i64 r), recovered := false } :: older)) w fun e u' w' =>
     e = .returned (.tuple #[]) ∧ u' = .panicking ({ v := .iface 29 (.int .i64 r), recovered := true } :: older) ∧ w' = w.setCell ⟨g, 0, none⟩ (.int .i64 r) := by
 have h1 := not_nilE
 have h2 := is_errno
 have d0 := cell_blk hg (j := 0) rfl
 have f0 : w.frozen? ⟨g, 0, none⟩ = false := by simp [World.frozen?, hg]
 refine callsD_of_wpS Tryz.func58 rfl fun c₀ cs hu => ?_
 apply wpS_seq
 apply wpS_region
 simp [wpOpsS, go_sem, recoverD, hu, Tryz.ntmps58, Exit.thenS]
 refine wpS_of_wp ?_
 clear hg
 go_wp2_with fail
 cases c₀
 simp_all [bodyPostS, results, Tryz.results58]
/- Check: its closure. -/
open Go.RowKit Go.ChangeMaps

theorem own_set {w : World} {B M n rb : Nat} {v u : Value} {cs : List Value} {c : Array Value} (h : w.ownsRow B 4 1 v n cs) (hM : M ≤ B) (hr : w.heap[rb]? = some (.cells c 28 (0, 0))) : (w.setCell ⟨rb, 0, none⟩ u).ownsRow M 4 1 v n cs := by
 refine ⟨h.1, ?_⟩
 rcases h.2 with h0 | ⟨g, cap, cur, rfl, hb, hg, hx⟩
 · exact .inl h0
 · refine .inr ⟨g, cap, cur, rfl, Nat.le_trans hM hb, (Below.heap_setCell _ ⟨rb, 0, none⟩ _ _ (fun e => ?_)).trans hg, hx⟩
   have e : g = rb := e
   subst e
   rw [hr] at hg; injection hg with hg; injection hg with _ e' _; exact absurd e' (by decide)
inductive CkEnd (r : Rc) (rb M : Nat) (w : World) : Ending → World → Prop where
 | ok {l : List Bool} {n : Nat} {v : Value} {w' : World} (h : r = .ok l n) (hv : w'.ownsRow M 4 1 v l.length (boolCells l)) (hr : w'.heap[rb]? = some (.cells #[v] 28 (0, 0))) (hF : Fw (fun k => k = rb) w w') : CkEnd r rb M w (.returned (.tuple #[])) w'
 | no {e : Nat} {w' : World} (h : r = .no e) (hF : Below w.heap.size w w') : CkEnd r rb M w (Pn (e : Int)) w'
set_option maxRecDepth 100000 in
set_option maxHeartbeats 3200000 in
theorem check1_any (x : Prg) (s : PrgP) (pb rb N : Nat) (w0 w : World) (deep : Nat) (ar : List (List UInt8)) (hmay : ∀ (i : Nat) (fn : Fnc), x.fns[i]? = some fn → ∃ f, fn.body.chk x fn f i deep ar = 0 ∧ fn.body.big ≤ 1048576) (hpos : 0 < x.fns.length) (hlen : x.fns.length ≤ 140737488355328)
   (hP : PB w N x pb s.p s.q s.c s.d) (hold : Below N w0 w) (hz : x.Ok (zc w0) N s.p s.q) (hN : N ≤ w.heap.size) (hN0 : N ≤ w0.heap.size) (hrb : w.heap[rb]? = some (.cells #[.slice none 0 0] 28 (0, 0))) :
   Calls Tryz.prog 27 #[.pointer (some ⟨pb, 0, none⟩), .pointer (some ⟨rb, 0, none⟩)] w (CkEnd (goF x x.fns.length (x.fns.length - 1) 0) rb w.heap.size w) := by
 have hmm := @run_makeMap Tryz.prog
 have hb1 := (Below.refl w.heap.size w).alloc (Nat.le_refl _) (.map #[] 0)
 have hb2 := hb1.alloc (by simp) (.cells #[.pointer (some ⟨pb, 0, none⟩), .int .i64 0, .map (some w.heap.size)] 80)
 have hsz : (w.alloc (.map #[] 0)).heap.size = w.heap.size + 1 := by simp
 have hcb : ((w.alloc (.map #[] 0)).alloc (.cells #[.pointer (some ⟨pb, 0, none⟩), .int .i64 0, .map (some w.heap.size)] 80)).heap[w.heap.size]? = some (.map #[] 0) := (Below.heap_alloc _ _ _ (by simp)).trans (heap_alloc_new _ _)
 have hwb : ((w.alloc (.map #[] 0)).alloc (.cells #[.pointer (some ⟨pb, 0, none⟩), .int .i64 0, .map (some w.heap.size)] 80)).heap[w.heap.size + 1]? = some (.cells #[.pointer (some ⟨pb, 0, none⟩), .int .i64 0, .map (some w.heap.size)] 80 (0, 0)) := by have := heap_alloc_new (w.alloc (.map #[] 0)) (.cells #[.pointer (some ⟨pb, 0, none⟩), .int .i64 0, .map (some w.heap.size)] 80); rw [hsz] at this; exact this
 have hWs : Ws ((w.alloc (.map #[] 0)).alloc (.cells #[.pointer (some ⟨pb, 0, none⟩), .int .i64 0, .map (some w.heap.size)] 80)) N (w.heap.size + 1) w.heap.size pb x s w0 0 :=
   ⟨hwb, ⟨#[], 0, hcb, by simp, fun y hy => by simp at hy⟩, ⟨(hb2.block pb (lt_blk hP.cs)).trans hP.cs, hP.ok.later (hb2.mono hN) (Nat.le_refl N)⟩, hold.trans (hb2.mono hN), hz, by omega, hN, Nat.le_trans hN hb2.size, hN0⟩
 obtain ⟨fn, hfn⟩ : ∃ fn, x.fns[x.fns.length - 1]? = some fn := ⟨_, List.getElem?_eq_getElem (by omega)⟩
 have HC := Lib.hid (fn_walk x s (w.heap.size + 1) w.heap.size pb N w0 deep ar hmay x.fns.length (x.fns.length - 1) fn (by omega) hfn _ 0 (by omega) hWs)
 have c1 := hWs.prg.v.2
 have HB2 := Lib.hid hb2
 have HRB := Lib.hid hrb
 have hrbl := lt_blk hrb
 have hcast : ((x.fns.length : Int) - 1) = ((x.fns.length - 1 : Nat) : Int) := by omega
 clear hb1 hb2 hcb hwb hWs hP hold hz hfn hmay
 go_enter Tryz.func27, Tryz.ntmps27
 go_wp2_with fail
 refine HC.out.mono ?_
 intro z w3 h3
 have hszW : ((w.alloc (.map #[] 0)).alloc (.cells #[.pointer (some ⟨pb, 0, none⟩), .int .i64 0, .map (some w.heap.size)] 80)).heap.size = w.heap.size + 2 := by simp
 have HWF := Lib.hid (show Fw (fun _ => False) w ((w.alloc (.map #[] 0)).alloc (.cells #[.pointer (some ⟨pb, 0, none⟩), .int .i64 0, .map (some w.heap.size)] 80)) from Fw.of_below HB2.out)
 have HF3 := Lib.hid (fun (hFx : Fw (fun k => k = w.heap.size + 1 ∨ k = w.heap.size) ((w.alloc (.map #[] 0)).alloc (.cells #[.pointer (some ⟨pb, 0, none⟩), .int .i64 0, .map (some w.heap.size)] 80)) w3) => show Fw (fun _ => False) w w3 from HWF.out.new hFx (fun j e => .inr (by omega)))
 rcases h3 with ⟨hl, hv, hWx, hFx⟩ | ⟨hl, hFx⟩
 rotate_left
 · have HEnd := Lib.hid (show CkEnd (goF x x.fns.length (x.fns.length - 1) 0) rb w.heap.size w (Pn _) w3 from .no hl ((HF3.out hFx).below (Nat.le_refl _) (fun _ e => e.elim)))
   clear hl hFx
   unfold Pn at HEnd ⊢
   go_wp2_with fail
   exact ⟨rfl, HEnd.out⟩
 rename_i l n v
 have hF := HF3.out hFx
 have k3 := (hF.block rb hrbl (fun e => e)).trans HRB.out
 have f0 : w3.frozen? ⟨rb, 0, none⟩ = false := by simp [World.frozen?, k3]
 have c3 : w3.cell? ⟨rb, 0, none⟩ = some (.slice none 0 0) := cell_blk k3 rfl
 have HEnd := Lib.hid (show CkEnd (goF x x.fns.length (x.fns.length - 1) 0) rb w.heap.size w (.returned (.tuple #[])) (w3.setCell ⟨rb, 0, none⟩ v) from .ok hl (own_set hv (by omega) k3) (heap_setCell_one k3 v) ((hF.imp (fun _ e => e.elim)).trans ⟨rfl, rfl, rfl, by simp [World.setCell], fun k _ hn => Below.heap_setCell _ ⟨rb, 0, none⟩ _ _ hn⟩))
 obtain ⟨pv, cv, hve⟩ : ∃ p c, v = .slice p l.length c := by obtain ⟨p, c, e, _⟩ := ownBools hv; exact ⟨p, c, e⟩
 subst hve
 clear hl hv hWx hFx hF k3
 go_wp2_with fail
 go_end0
 exact HEnd.out
/- Check: the panic of its closure is caught. -/
open Go.RowKit Go.ChangeMaps

theorem own_set2 {w : World} {B M n rb : Nat} {v u : Value} {cs : List Value} (h : w.ownsRow B 4 1 v n cs) (hM : M ≤ B) (hr : rb < B) : (w.setCell ⟨rb, 0, none⟩ u).ownsRow M 4 1 v n cs := by
 refine ⟨h.1, ?_⟩
 rcases h.2 with h0 | ⟨g, cap, cur, rfl, hb, hg, hx⟩
 · exact .inl h0
 · refine .inr ⟨g, cap, cur, rfl, Nat.le_trans hM hb, (Below.heap_setCell _ ⟨rb, 0, none⟩ _ _ (fun e => ?_)).trans hg, hx⟩
   have e : g = rb := e
   omega
inductive CaEnd (r : Rc) (rb M : Nat) (w : World) : Ending → World → Prop where
 | ok {l : List Bool} {n : Nat} {v : Value} {w' : World} (h : r = .ok l n) (hv : w'.ownsRow M 4 1 v l.length (boolCells l)) (hr : w'.heap[rb]? = some (.cells #[v] 28 (0, 0))) (hF : Fw (fun k => k = rb) w w') : CaEnd r rb M w (.returned (.int .i64 0)) w'
 | no {e : Nat} {w' : World} (h : r = .no e) (hF : Below w.heap.size w w') : CaEnd r rb M w (.returned (.int .i64 (e : Int))) w'
set_option maxHeartbeats 3200000 in
theorem caughtCk_any (r : Rc) (pb rb : Nat) (w : World) (hrb : rb < w.heap.size) (h : ∀ W, Below w.heap.size w W → Calls Tryz.prog 27 #[.pointer (some ⟨pb, 0, none⟩), .pointer (some ⟨rb, 0, none⟩)] W (CkEnd r rb W.heap.size W)) :
   Calls Tryz.prog 26 #[.func (.func 27) #[] #[.pointer (some ⟨pb, 0, none⟩), .pointer (some ⟨rb, 0, none⟩)]] w (CaEnd r rb w.heap.size w) := by
 have hmf : ∀ (fn : Fn) (first cap : Array Value) (w : World), (Instr.makeFunc fn first cap).run Tryz.prog w = .ok (.func fn first cap) w := fun _ _ _ _ => rfl
 obtain ⟨W0, hW0, k0, hB0, hz0⟩ := one_alloc w (.cells #[.int .i64 0] 29)
 have HCl := Lib.hid (h W0 hB0)
 have HB0 := Lib.hid (show Below w.heap.size w W0 ∧ w.heap.size < W0.heap.size from ⟨hB0, by omega⟩)
 have HK := Lib.hid k0
 have HW0 := Lib.hid hW0
 clear hW0 k0 hB0 hz0 h
 go_enter_defers Tryz.func26, Tryz.ntmps26
 go_wp2_with fail
 rw [HW0.out]
 refine HCl.out.mono ?_
 intro z w1 hc
 rcases hc with ⟨r1, hv1, hr1, hF1⟩ | ⟨r1, hB1⟩
 · have k1 := (hF1.block _ HB0.out.2 (fun e => by omega)).trans HK.out
   rename_i l n v
   have hF01 : Fw (fun k => k = rb) w w1 := (Fw.of_below HB0.out.1).trans hF1
   have hFS : Fw (fun k => k = w.heap.size) w1 (w1.setCell ⟨w.heap.size, 0, none⟩ (.int .i64 0)) := ⟨rfl, rfl, rfl, by simp [World.setCell], fun k _ hn => Below.heap_setCell _ ⟨w.heap.size, 0, none⟩ _ _ hn⟩
   have HEnd := Lib.hid (show CaEnd r rb w.heap.size w (.returned (.int .i64 0)) (w1.setCell ⟨w.heap.size, 0, none⟩ (.int .i64 0)) from .ok r1 (own_set2 hv1 (Nat.le_of_lt HB0.out.2) HB0.out.2) ((hFS.block rb (lt_blk hr1) (by omega)).trans hr1) (hF01.new hFS (fun j e => .inr (by omega))))
   have c0 : w1.cell? ⟨w.heap.size, 0, none⟩ = some (.int .i64 0) := cell_blk k1 rfl
   have f0 : w1.frozen? ⟨w.heap.size, 0, none⟩ = false := by simp [World.frozen?, k1]
   have hF := heap_setCell_one k1 (.int .i64 0)
   have HF := Lib.hid hF
   clear k1 hF hF1 r1 hv1 hr1 hF01 hFS
   go_wp2_with fail
   refine leaves_cons (f := 58) (args := #[.pointer (some ⟨w.heap.size, 0, none⟩)]) (by simp) (by simp [go_sem]) ?_
   refine (sidle_any _ _).mono ?_
   rintro e u w9 ⟨rfl, rfl, rfl⟩
   have y0 := cell_blk HF.out (j := 0) rfl
   refine ⟨.int .i64 0, ?_, HEnd.out⟩
   simp [results, Tryz.results26, go_sem, y0]
 · have k1 := (hB1.block _ HB0.out.2).trans HK.out
   have HBB := Lib.hid (HB0.out.1.trans (hB1.mono (Nat.le_of_lt HB0.out.2)))
   have HK1 := Lib.hid k1
   have HR1 := Lib.hid r1
   rename_i m
   clear k1 hB1 r1
   unfold Pn
   go_wp2_with fail
   refine leaves_cons (f := 58) (args := #[.pointer (some ⟨w.heap.size, 0, none⟩)]) (by simp) (by simp [go_sem]) ?_
   refine (scaught1_any w.heap.size (m : Int) [] w1 HK1.out).mono ?_
   rintro e u w9 ⟨rfl, rfl, rfl⟩
   have hF := heap_setCell_one HK1.out (.int .i64 (m : Int))
   have y0 := cell_blk hF (j := 0) rfl
   have H2 := HBB.out.setCell (p := ⟨w.heap.size, 0, none⟩) (Nat.le_refl _) (.int .i64 (m : Int))
   show Leaves _ _ _ _ [] (settle _) _
   refine ⟨.int .i64 (m : Int), ?_, .no HR1.out H2⟩
   simp [results, Tryz.results26, go_sem, y0]
/- Check of any program. -/
open Go.RowKit Go.ChangeMaps

theorem own_base {w : World} {B M n : Nat} {v : Value} {cs : List Value} (h : w.ownsRow B 4 1 v n cs) (hM : M ≤ B) : w.ownsRow M 4 1 v n cs := by
 refine ⟨h.1, ?_⟩
 rcases h.2 with h0 | ⟨g, cap, cur, rfl, hb, hg, hx⟩
 · exact .inl h0
 · exact .inr ⟨g, cap, cur, rfl, Nat.le_trans hM hb, hg, hx⟩
inductive ChEnd (r : Rc) (M : Nat) (w : World) : Ending → World → Prop where
 | ok {l : List Bool} {n : Nat} {v : Value} {w' : World} (h : r = .ok l n) (hv : w'.ownsRow M 4 1 v l.length (boolCells l)) (hF : Below w.heap.size w w') : ChEnd r M w (.returned (.tuple #[v, .int .i64 0])) w'
 | no {e : Nat} {w' : World} (h : r = .no e) (hF : Below w.heap.size w w') : ChEnd r M w (.returned (.tuple #[.slice none 0 0, .int .i64 (e : Int)])) w'
set_option maxRecDepth 100000 in
set_option maxHeartbeats 3200000 in
theorem check_any (x : Prg) (s : PrgP) (N : Nat) (w : World) (h : x.Ok w N s.p s.q) (hz : x.Ok (zc w) N s.p s.q) (hN : N ≤ w.heap.size) (hc : x.regs.length ≤ s.c) (hd : x.fns.length ≤ s.d) (hbig : ∀ (i : Nat) (fn : Fnc), x.fns[i]? = some fn → fn.body.big ≤ 1048576) :
   Calls Tryz.prog 8 #[x.v s] w (ChEnd (chkP x) w.heap.size w) := by
 obtain ⟨W0, hW0, k0, hB0, hz0⟩ := one_alloc w (.cells #[.slice s.p x.regs.length s.c, .slice s.q x.fns.length s.d] 25)
 have HM := Lib.hid (may_any x s N W0 (h.later (hB0.mono hN) (Nat.le_refl N)) (by omega) hc hd)
 have HB0 := Lib.hid (show Below w.heap.size w W0 ∧ w.heap.size ≤ W0.heap.size from ⟨hB0, by omega⟩)
 have HW0 := Lib.hid hW0
 have c0 : W0.cell? ⟨w.heap.size, 0, none⟩ = some (.slice s.p x.regs.length s.c) := cell_blk k0 rfl
 have c1 : W0.cell? ⟨w.heap.size, 1, none⟩ = some (.slice s.q x.fns.length s.d) := cell_blk k0 rfl
 have HK := Lib.hid k0
 have HH := Lib.hid (And.intro h (And.intro hz hbig))
 unfold Prg.v at HM ⊢
 clear hW0 k0 hB0 h hz hbig
 go_enter Tryz.func8, Tryz.ntmps8
 go_wp2_with fail
 rw [HW0.out]
 refine HM.out.mono ?_
 rintro z w1 ⟨rfl, hB1⟩
 have HB1 := Lib.hid (show Below w.heap.size w w1 ∧ w.heap.size ≤ w1.heap.size from ⟨HB0.out.1.trans (hB1.mono HB0.out.2), by have := hB1.size; have := HB0.out.2; omega⟩)
 have HK1 := Lib.hid ((hB1.block _ (lt_blk HK.out)).trans HK.out)
 clear hB1
 by_cases hm : mayR x = 0
 rotate_left
 · have hm' : ((mayR x : Int) == 0) = false := by simp; omega
   have HEnd := Lib.hid (show ChEnd (chkP x) w.heap.size w (.returned (.tuple #[.slice none 0 0, .int .i64 (mayR x : Int)])) w1 from .no (by rw [chkP, if_pos hm]) HB1.out.1)
   go_wp2_with fail
   go_ret2
   exact HEnd.out
 obtain ⟨W2, hW2, k2, hB2, hz2⟩ := one_alloc w1 (.cells #[.slice none 0 0] 28)
 have hpos : 0 < x.fns.length := by
   have := ((may_zero x).1 hm).1
   simp only [Prg.few, Bool.and_eq_true] at this
   obtain ⟨⟨⟨⟨h1, h2⟩, h3⟩, h4⟩, h5⟩ := this
   simp only [fewB, Bool.and_eq_true, decide_eq_true_eq] at h2
   omega
 have hle := HB1.out.2
 have hlt1 := lt_blk HK1.out
 have HCk := Lib.hid (caughtCk_any (goF x x.fns.length (x.fns.length - 1) 0) w.heap.size w1.heap.size W2 (by omega) fun W hW => check1_any x s w.heap.size w1.heap.size N w W 1 [] (fun i fn hi => ⟨_, by have := ((may_zero x).1 hm).2.2.2.2 i fn hi; unfold bodyR at this; exact this, HH.out.2.2 i fn hi⟩) hpos HH.out.1.2.1
   ⟨(hW.block _ (by omega)).trans ((hB2.block _ (by omega)).trans HK1.out), HH.out.1.later ((HB1.out.1.trans ((hB2.trans (hW.mono (by omega))).mono HB1.out.2)).mono hN) (Nat.le_refl N)⟩ ((HB1.out.1.trans ((hB2.trans (hW.mono (by omega))).mono HB1.out.2)).mono hN) HH.out.2.1 (by have := hW.size; omega) hN ((hW.block _ (by omega)).trans k2))
 have HR := Lib.hid (show chkP x = goF x x.fns.length (x.fns.length - 1) 0 from by rw [chkP, if_neg (by omega)])
 have HB2 := Lib.hid (show Below w.heap.size w W2 from HB1.out.1.trans (hB2.mono HB1.out.2))
 have HW2 := Lib.hid hW2
 have HK2 := Lib.hid k2
 have hsz2 : w1.heap.size < W2.heap.size := by omega
 have HLe := Lib.hid (And.intro HB1.out.2 (And.intro hB2.size hz2))
 rw [hm]
 have hmf : ∀ (fn : Fn) (first cap : Array Value) (w : World), (Instr.makeFunc fn first cap).run Tryz.prog w = .ok (.func fn first cap) w := fun _ _ _ _ => rfl
 clear hW2 k2 hB2 hz2 c0 c1
 go_wp2_with fail
 rw [HW2.out]
 refine HCk.out.mono ?_
 intro z w3 h3
 rcases h3 with ⟨hl, hv, hr, hF⟩ | ⟨hl, hB⟩
 · rename_i l n v
   have HEnd := Lib.hid (show ChEnd (chkP x) w.heap.size w (.returned (.tuple #[v, .int .i64 0])) w3 from .ok (HR.out.trans hl) (own_base hv (by have := HLe.out; omega)) (((Fw.of_below HB2.out : Fw (fun _ => False) w W2).new hF (fun j e => .inr (by omega))).below (Nat.le_refl _) (fun _ e => e.elim)))
   obtain ⟨pv, cv, hve⟩ : ∃ p c, v = .slice p l.length c := by obtain ⟨p, c, e, _⟩ := ownBools hv; exact ⟨p, c, e⟩
   subst hve
   have c3 : w3.cell? ⟨w1.heap.size, 0, none⟩ = some (.slice pv l.length cv) := cell_blk hr rfl
   clear hl hv hr hF
   go_wp2_with fail
   go_ret2
   exact HEnd.out
 · have HEnd := Lib.hid (show ChEnd (chkP x) w.heap.size w (.returned (.tuple #[.slice none 0 0, .int .i64 (_ : Int)])) w3 from .no (HR.out.trans hl) (HB2.out.trans (hB.mono (by omega))))
   have c3 : w3.cell? ⟨w1.heap.size, 0, none⟩ = some (.slice none 0 0) := cell_blk ((hB.block _ (by omega)).trans HK2.out) rfl
   clear hl hB
   go_wp2_with fail
   go_ret2
   exact HEnd.out
/- The law's programs: their parts. -/
open Go.RowKit

theorem zc_blk {w : World} {b : Nat} {cs : Array Value} {t : TypeId} (h : w.heap[b]? = some (.cells cs t (0, 0))) : (zc w).heap[b]? = some (.cells cs t (0, 0)) := by
 simp [zc, Array.getElem?_map, h]
theorem zc_below {N : Nat} {w w' : World} (h : Below N w w') : Below N (zc w) (zc w') :=
 ⟨h.os, h.tape, h.output, by simpa [zc] using h.size, fun k hk => by simp [zc, Array.getElem?_map, h.block k hk]⟩
theorem six (w : World) (o0 o1 o2 o3 o4 o5 : Obj) : ∃ W, (((((w.alloc o0).alloc o1).alloc o2).alloc o3).alloc o4).alloc o5 = W ∧ W.heap[w.heap.size]? = some o0 ∧ W.heap[w.heap.size + 1]? = some o1 ∧ W.heap[w.heap.size + 2]? = some o2 ∧ W.heap[w.heap.size + 3]? = some o3 ∧ W.heap[w.heap.size + 4]? = some o4 ∧ W.heap[w.heap.size + 5]? = some o5 ∧ Below w.heap.size w W ∧ W.heap.size = w.heap.size + 6 := by
 obtain ⟨w3, e3, a0, a1, a2, hB, hs⟩ := three w o0 o1 o2
 obtain ⟨w6, e6, a3, a4, a5, hB', hs'⟩ := three w3 o3 o4 o5
 rw [hs] at a3 a4 a5 hB' hs'
 refine ⟨w6, by rw [e3, e6], (hB'.block _ (by omega)).trans a0, (hB'.block _ (by omega)).trans a1, (hB'.block _ (by omega)).trans a2, a3, a4, a5, hB.trans (hB'.mono (by omega)), by omega⟩
def exN (n : Nat) : Ex := .mk 1 n [] .nil
def exV (s : List UInt8) : Ex := .mk 2 0 s .nil
def exT (op : Int) (a b : Ex) : Ex := .mk op 0 [] (.cons a (.cons b .nil))
set_option maxHeartbeats 1600000 in
theorem num_any (n : Nat) (w : World) : Calls Tryz.prog 24 #[.int .u64 (n : Int)] w fun z w' => z = .returned (.agg #[.int .i64 1, .int .u64 (n : Int), .string (str []), .slice none 0 0]) ∧ Below w.heap.size w w' := by
 obtain ⟨W0, hW0, k0, hB0, hz0⟩ := one_alloc w (.cells #[.int .i64 1, .int .u64 (n : Int), .string (str []), .slice none 0 0] 40)
 have HW := Lib.hid hW0
 have HK := Lib.hid k0
 have HE := Lib.hid hB0
 clear hW0 k0 hB0 hz0
 go_enter Tryz.func24, Tryz.ntmps24
 go_wp2_with fail
 erw [HW.out]
 have k0 := HK.out
 have y0 := cell_blk k0 (j := 0) rfl
 have y1 := cell_blk k0 (j := 1) rfl
 have y2 := cell_blk k0 (j := 2) rfl
 have y3 := cell_blk k0 (j := 3) rfl
 refine bodyPost_ret (v := .agg #[.int .i64 1, .int .u64 (n : Int), .string (str []), .slice none 0 0]) ?_ rfl ⟨rfl, HE.out⟩
 simp [results, Tryz.results24, go_sem, y0, y1, y2, y3]
set_option maxHeartbeats 1600000 in
theorem lword_any (s : List UInt8) (w : World) : Calls Tryz.prog 23 #[.string (str s)] w fun z w' => z = .returned (.agg #[.int .i64 2, .int .u64 0, .string (str s), .slice none 0 0]) ∧ Below w.heap.size w w' := by
 obtain ⟨W0, hW0, k0, hB0, hz0⟩ := one_alloc w (.cells #[.int .i64 2, .int .u64 0, .string (str s), .slice none 0 0] 40)
 have HW := Lib.hid hW0
 have HK := Lib.hid k0
 have HE := Lib.hid hB0
 clear hW0 k0 hB0 hz0
 go_enter Tryz.func23, Tryz.ntmps23
 go_wp2_with fail
 erw [HW.out]
 have k0 := HK.out
 have y0 := cell_blk k0 (j := 0) rfl
 have y1 := cell_blk k0 (j := 1) rfl
 have y2 := cell_blk k0 (j := 2) rfl
 have y3 := cell_blk k0 (j := 3) rfl
 refine bodyPost_ret (v := .agg #[.int .i64 2, .int .u64 0, .string (str s), .slice none 0 0]) ?_ rfl ⟨rfl, HE.out⟩
 simp [results, Tryz.results23, go_sem, y0, y1, y2, y3]
set_option maxHeartbeats 3200000 in
theorem lset_any (s : List UInt8) (op wd : Int) (nm : List UInt8) (p : Option Addr) (n c : Nat) (w : World) : Calls Tryz.prog 21 #[.string (str s), .agg #[.int .i64 op, .int .u64 wd, .string (str nm), .slice p n c]] w fun z w' => z = .returned (.agg #[.int .i64 1, .string (str s), .slice none 0 0, .int .i64 op, .int .u64 wd, .string (str nm), .slice p n c, .int .i64 0, .int .u64 0, .string (str []), .slice none 0 0, .slice none 0 0, .int .u64 0, .int .u64 0, .slice none 0 0, .slice none 0 0]) ∧ Below w.heap.size w w' := by
 obtain ⟨W0, hW0, k1, k0, hB0, hz0⟩ := two_alloc w (.cells #[.int .i64 op, .int .u64 wd, .string (str nm), .slice p n c] 40) (.cells #[.int .i64 1, .string (str s), .slice none 0 0, .int .i64 op, .int .u64 wd, .string (str nm), .slice p n c, .int .i64 0, .int .u64 0, .string (str []), .slice none 0 0, .slice none 0 0, .int .u64 0, .int .u64 0, .slice none 0 0, .slice none 0 0] 45)
 have HW := Lib.hid hW0
 have HK := Lib.hid k0
 have HE := Lib.hid hB0
 clear hW0 k0 hB0 hz0 k1
 go_enter Tryz.func21, Tryz.ntmps21
 go_wp2_with fail
 erw [HW.out]
 have k0 := HK.out
 have y0 := cell_blk k0 (j := 0) rfl
 have y1 := cell_blk k0 (j := 1) rfl
 have y2 := cell_blk k0 (j := 2) rfl
 have y3 := cell_blk k0 (j := 3) rfl
 have y4 := cell_blk k0 (j := 4) rfl
 have y5 := cell_blk k0 (j := 5) rfl
 have y6 := cell_blk k0 (j := 6) rfl
 have y7 := cell_blk k0 (j := 7) rfl
 have y8 := cell_blk k0 (j := 8) rfl
 have y9 := cell_blk k0 (j := 9) rfl
 have y10 := cell_blk k0 (j := 10) rfl
 have y11 := cell_blk k0 (j := 11) rfl
 have y12 := cell_blk k0 (j := 12) rfl
 have y13 := cell_blk k0 (j := 13) rfl
 have y14 := cell_blk k0 (j := 14) rfl
 have y15 := cell_blk k0 (j := 15) rfl
 refine bodyPost_ret (v := .agg #[.int .i64 1, .string (str s), .slice none 0 0, .int .i64 op, .int .u64 wd, .string (str nm), .slice p n c, .int .i64 0, .int .u64 0, .string (str []), .slice none 0 0, .slice none 0 0, .int .u64 0, .int .u64 0, .slice none 0 0, .slice none 0 0]) ?_ rfl ⟨rfl, HE.out⟩
 simp [results, Tryz.results21, go_sem, y0, y1, y2, y3, y4, y5, y6, y7, y8, y9, y10, y11, y12, y13, y14, y15]
set_option maxHeartbeats 3200000 in
theorem two_any (op : Int) (o1 d1 o2 d2 : Int) (n1 n2 : List UInt8) (p1 p2 : Option Addr) (m1 c1 m2 c2 : Nat) (w : World) : Calls Tryz.prog 22 #[.int .i64 op, .agg #[.int .i64 o1, .int .u64 d1, .string (str n1), .slice p1 m1 c1], .agg #[.int .i64 o2, .int .u64 d2, .string (str n2), .slice p2 m2 c2]] w fun z w' => ∃ r, z = .returned (.agg #[.int .i64 op, .int .u64 0, .string (str []), .slice (some ⟨r, 0, none⟩) 2 2]) ∧ w'.heap[r]? = some (.cells #[.int .i64 o1, .int .u64 d1, .string (str n1), .slice p1 m1 c1, .int .i64 o2, .int .u64 d2, .string (str n2), .slice p2 m2 c2] 40 (0, 0)) ∧ Below w.heap.size w w' := by
 obtain ⟨w1, e1, k0, k1, hB1, hz1⟩ := two_alloc w (.cells #[.int .i64 o1, .int .u64 d1, .string (str n1), .slice p1 m1 c1] 40) (.cells #[.int .i64 o2, .int .u64 d2, .string (str n2), .slice p2 m2 c2] 40)
 obtain ⟨W0, hW0, k2, k3, hB0, hz0⟩ := two_alloc w1 (.cells #[.int .i64 op, .int .u64 0, .string (str []), .slice (some ⟨w.heap.size + 1 + 1 + 1, 0, none⟩) 2 2] 40) (.cells #[.int .i64 o1, .int .u64 d1, .string (str n1), .slice p1 m1 c1, .int .i64 o2, .int .u64 d2, .string (str n2), .slice p2 m2 c2] 40)
 rw [← e1] at hW0
 have HW := Lib.hid hW0
 have H3 := Lib.hid (show W0.heap[w.heap.size + 1 + 1 + 1]? = some (.cells #[.int .i64 o1, .int .u64 d1, .string (str n1), .slice p1 m1 c1, .int .i64 o2, .int .u64 d2, .string (str n2), .slice p2 m2 c2] 40 (0, 0)) by rw [hz1] at k3; exact k3)
 have H2 := Lib.hid k2
 have HE := Lib.hid (hB1.trans (hB0.mono (by omega)))
 have HZ := Lib.hid hz1
 clear hW0 e1 k0 k1 k2 k3 hB1 hB0 hz0 hz1
 go_enter Tryz.func22, Tryz.ntmps22
 go_wp2_with fail
 erw [HW.out]
 have H2' := H2.out
 rw [HZ.out] at H2'
 have y0 := cell_blk H2' (j := 0) rfl
 have y1 := cell_blk H2' (j := 1) rfl
 have y2 := cell_blk H2' (j := 2) rfl
 have y3 := cell_blk H2' (j := 3) rfl
 refine bodyPost_ret (v := .agg #[.int .i64 op, .int .u64 0, .string (str []), .slice (some ⟨w.heap.size + 1 + 1 + 1, 0, none⟩) 2 2]) ?_ rfl ⟨_, rfl, H3.out, HE.out⟩
 simp [results, Tryz.results22, go_sem, y0, y1, y2, y3]
def mainF (l : Sts) : Fnc := ⟨[109, 97, 105, 110], [⟨[120], 1, 0, true⟩], [⟨[121], 1, 0, false⟩, ⟨[105], 1, 0, false⟩, ⟨[122], 1, 0, false⟩, ⟨[115], 3, 4, false⟩], [[121]], l⟩
def mainG : Fnc := ⟨[102], [⟨[112], 1, 0, false⟩], [], [], .nil⟩
def mainP (l : Sts) : Prg := ⟨[], [mainG, mainF l]⟩
structure MainAt (W : World) (g : Nat) (l : Sts) (q : Option Addr) (c : Nat) : Prop where
 v : W.heap[g + 1]? = some (.cells #[.string (str [121]), .int .i64 1, .int .i64 0, .bool false, .string (str [105]), .int .i64 1, .int .i64 0, .bool false, .string (str [122]), .int .i64 1, .int .i64 0, .bool false, .string (str [115]), .int .i64 3, .int .i64 4, .bool false] 58 (0, 0))
 p : W.heap[g + 2]? = some (.cells #[.string (str [112]), .int .i64 1, .int .i64 0, .bool false] 58 (0, 0))
 x : W.heap[g + 3]? = some (.cells #[.string (str [120]), .int .i64 1, .int .i64 0, .bool true] 58 (0, 0))
 r : W.heap[g + 4]? = some (.cells #[.string (str [121])] 9 (0, 0))
 f : W.heap[g + 5]? = some (.cells #[.string (str [102]), .slice (some ⟨g + 2, 0, none⟩) 1 1, .slice none 0 0, .slice none 0 0, .slice none 0 0, .string (str [109, 97, 105, 110]), .slice (some ⟨g + 3, 0, none⟩) 1 1, .slice (some ⟨g + 1, 0, none⟩) 4 4, .slice (some ⟨g + 4, 0, none⟩) 1 1, .slice q l.len c] 48 (0, 0))
theorem MainAt.z {W : World} {g : Nat} {l : Sts} {q : Option Addr} {c : Nat} (h : MainAt W g l q c) : MainAt (zc W) g l q c := ⟨zc_blk h.v, zc_blk h.p, zc_blk h.x, zc_blk h.r, zc_blk h.f⟩
def mainS (g : Nat) : PrgP := ⟨none, some ⟨g + 5, 0, none⟩, 0, 2⟩
theorem MainAt.ok {W : World} {g N : Nat} {l : Sts} {q : Option Addr} {c : Nat} (h : MainAt W g l q c) (hl : l.In W N q) (hN : N ≤ g + 6) : (mainP l).Ok W (g + 6) none (some ⟨g + 5, 0, none⟩) := by
 have hz : ∀ {α : Type} (A : α → Nat → Nat → Prop) (k : Nat), RowIn (g + 6) A k [] none := fun A k => ⟨Nat.zero_le _, .inl rfl⟩
 have y0 := cell_blk h.f (j := 0) rfl
 have y1 := cell_blk h.f (j := 1) rfl
 have y2 := cell_blk h.f (j := 2) rfl
 have y3 := cell_blk h.f (j := 3) rfl
 have y4 := cell_blk h.f (j := 4) rfl
 have y5 := cell_blk h.f (j := 5) rfl
 have y6 := cell_blk h.f (j := 6) rfl
 have y7 := cell_blk h.f (j := 7) rfl
 have y8 := cell_blk h.f (j := 8) rfl
 have y9 := cell_blk h.f (j := 9) rfl
 have p0 := cell_blk h.p (j := 0) rfl
 have p1 := cell_blk h.p (j := 1) rfl
 have p2 := cell_blk h.p (j := 2) rfl
 have p3 := cell_blk h.p (j := 3) rfl
 have x0 := cell_blk h.x (j := 0) rfl
 have x1 := cell_blk h.x (j := 1) rfl
 have x2 := cell_blk h.x (j := 2) rfl
 have x3 := cell_blk h.x (j := 3) rfl
 have v0 := cell_blk h.v (j := 0) rfl
 have v1 := cell_blk h.v (j := 1) rfl
 have v2 := cell_blk h.v (j := 2) rfl
 have v3 := cell_blk h.v (j := 3) rfl
 have v4 := cell_blk h.v (j := 4) rfl
 have v5 := cell_blk h.v (j := 5) rfl
 have v6 := cell_blk h.v (j := 6) rfl
 have v7 := cell_blk h.v (j := 7) rfl
 have v8 := cell_blk h.v (j := 8) rfl
 have v9 := cell_blk h.v (j := 9) rfl
 have v10 := cell_blk h.v (j := 10) rfl
 have v11 := cell_blk h.v (j := 11) rfl
 have v12 := cell_blk h.v (j := 12) rfl
 have v13 := cell_blk h.v (j := 13) rfl
 have v14 := cell_blk h.v (j := 14) rfl
 have v15 := cell_blk h.v (j := 15) rfl
 have r0 := cell_blk h.r (j := 0) rfl
 refine ⟨hz _ _, ⟨show 2 ≤ 140737488355328 by decide, .inr ⟨g + 5, 0, rfl, by omega, ?_, ?_, trivial⟩⟩⟩
 · exact ⟨y0, ⟨some ⟨g + 2, 0, none⟩, 1, y1, ⟨show 1 ≤ 140737488355328 by decide, .inr ⟨g + 2, 0, rfl, by omega, ⟨⟨p0, p1, p2, p3⟩, trivial⟩⟩⟩⟩, ⟨none, 0, y2, hz _ _⟩, ⟨none, 0, y3, Nat.zero_le _, hz _ _⟩, ⟨none, 0, y4, Nat.zero_le _, .inl rfl⟩⟩
 · exact ⟨y5, ⟨some ⟨g + 3, 0, none⟩, 1, y6, ⟨show 1 ≤ 140737488355328 by decide, .inr ⟨g + 3, 0, rfl, by omega, ⟨⟨x0, x1, x2, x3⟩, trivial⟩⟩⟩⟩, ⟨some ⟨g + 1, 0, none⟩, 4, y7, ⟨show 4 ≤ 140737488355328 by decide, .inr ⟨g + 1, 0, rfl, by omega, ⟨⟨v0, v1, v2, v3⟩, ⟨v4, v5, v6, v7⟩, ⟨v8, v9, v10, v11⟩, ⟨v12, v13, v14, v15⟩, trivial⟩⟩⟩⟩, ⟨some ⟨g + 4, 0, none⟩, 1, y8, Nat.le_refl 1, ⟨show 1 ≤ 140737488355328 by decide, .inr ⟨g + 4, 0, rfl, by omega, r0, trivial⟩⟩⟩, ⟨q, c, y9, hl.later (Below.refl _ _) hN⟩⟩
set_option maxHeartbeats 6400000 in
theorem main_any (l : Sts) (q : Option Addr) (c : Nat) (w : World) :
   Calls Tryz.prog 20 #[.slice q l.len c] w fun z w' => z = .returned (.agg #[.slice none 0 0, .slice (some ⟨w.heap.size + 5, 0, none⟩) 2 2]) ∧ MainAt w' w.heap.size l q c ∧ w'.heap.size = w.heap.size + 6 ∧ Below w.heap.size w w' := by
 obtain ⟨W0, hW0, k0, k1, k2, k3, k4, k5, hB0, hz0⟩ := six w (.cells #[.slice none 0 0, .slice (some ⟨w.heap.size + 5, 0, none⟩) 2 2] 25) (.cells #[.string (str [121]), .int .i64 1, .int .i64 0, .bool false, .string (str [105]), .int .i64 1, .int .i64 0, .bool false, .string (str [122]), .int .i64 1, .int .i64 0, .bool false, .string (str [115]), .int .i64 3, .int .i64 4, .bool false] 58) (.cells #[.string (str [112]), .int .i64 1, .int .i64 0, .bool false] 58) (.cells #[.string (str [120]), .int .i64 1, .int .i64 0, .bool true] 58) (.cells #[.string (str [121])] 9) (.cells #[.string (str [102]), .slice (some ⟨w.heap.size + 2, 0, none⟩) 1 1, .slice none 0 0, .slice none 0 0, .slice none 0 0, .string (str [109, 97, 105, 110]), .slice (some ⟨w.heap.size + 3, 0, none⟩) 1 1, .slice (some ⟨w.heap.size + 1, 0, none⟩) 4 4, .slice (some ⟨w.heap.size + 4, 0, none⟩) 1 1, .slice q l.len c] 48)
 have HW := Lib.hid hW0
 have HE := Lib.hid (show MainAt W0 w.heap.size l q c ∧ W0.heap.size = w.heap.size + 6 ∧ Below w.heap.size w W0 from ⟨⟨k1, k2, k3, k4, k5⟩, hz0, hB0⟩)
 have HK := Lib.hid k0
 clear hW0 k0 k1 k2 k3 k4 k5 hB0 hz0
 go_enter Tryz.func20, Tryz.ntmps20
 go_wp2_with fail
 erw [HW.out]
 have y0 := cell_blk HK.out (j := 0) rfl
 have y1 := cell_blk HK.out (j := 1) rfl
 refine bodyPost_ret (v := .agg #[.slice none 0 0, .slice (some ⟨w.heap.size + 5, 0, none⟩) 2 2]) ?_ rfl ⟨rfl, HE.out⟩
 simp [results, Tryz.results20, go_sem, y0, y1]
end Go.Proofs.YtihmibggonffdaaGreat
