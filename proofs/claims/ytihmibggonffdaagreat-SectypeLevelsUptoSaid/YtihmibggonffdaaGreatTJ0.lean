/- TF, TG, TH, TJ0 as one. -/
import Derived.Test.YtihmibggonffdaaGreatTE
import Derived.Deep.LoopGhost
import Derived.Test.YtihmibggonffdaaGreatD2
/- The walker: what must be public; how its calls end. -/
namespace Go.Proofs.YtihmibggonffdaaGreat
open Go.RowKit

inductive PubEnd (r : Bool) (N wb cb pb : Nat) (x : Prg) (s : PrgP) (w0 : World) (n : Nat) (w : World) : Ending → World → Prop where
 | ok {w' : World} (h : r = true) (hW : Ws w' N wb cb pb x s w0 n) (hF : Fw (fun k => k = cb) w w') : PubEnd r N wb cb pb x s w0 n w (.returned (.tuple #[])) w'
 | no {w' : World} (h : r = false) (hF : Fw (fun k => k = cb) w w') : PubEnd r N wb cb pb x s w0 n w (Pn 10) w'
set_option maxHeartbeats 1600000 in
theorem mustPub_walk (x : Prg) (s : PrgP) (i : Nat) (fn : Fnc) (e : Ex) (deep wb cb pb mb eb eo N n : Nat) (T : List (List UInt8)) (w0 w : World) (hW : Ws w N wb cb pb x s w0 n) (hi : x.fns[i]? = some fn) (hchk : e.chk x fn deep = 0) (he : e.At (zc w0) N eb eo) (hb : eb < N) (hsz : e.size ≤ 3000000) (hM : Mp w mb (mem T)) (hmc : mb ≠ cb) :
   Calls Tryz.prog 110 #[.pointer (some ⟨wb, 0, none⟩), .int .i64 (i : Int), .pointer (some ⟨eb, eo, none⟩), .map (some mb)] w (PubEnd (pub x fn e T) N wb cb pb x s w0 n w) := by
 have HL := Lib.hid (level_walk x s i fn e deep wb cb pb mb eb eo N n T w0 w hW hi hchk he hb hsz hM hmc)
 have HP := Lib.hid (show pub x fn e T = (match e.lev x fn T with | some b => !b | none => false) from rfl)
 generalize pub x fn e T = r at HP ⊢
 generalize e.lev x fn T = l at HL HP
 clear hW hi hchk he hb hsz hM hmc
 go_enter Tryz.func110, Tryz.ntmps110
 go_wp2_with fail
 refine HL.out.mono ?_
 intro z w2 h2
 rcases h2 with ⟨hr, hW2, hF2⟩ | ⟨hr, hF2⟩
 · rename_i t
   subst hr
   have HF := Lib.hid hF2
   have HW2 := Lib.hid hW2
   clear hF2 hW2
   cases t with
   | true =>
     have HR := Lib.hid (show r = false from HP.out)
     go_wp2_with fail
     refine (smust_no 10 _).mono ?_
     rintro z w3 ⟨rfl, rfl⟩
     unfold Pn
     go_wp2_with fail
     exact ⟨rfl, .no HR.out HF.out⟩
   | false =>
     have HR := Lib.hid (show r = true from HP.out)
     go_wp2_with fail
     refine (smust_yes 10 _).mono ?_
     rintro z w3 ⟨rfl, rfl⟩
     go_wp2_with fail
     go_end0
     exact .ok HR.out HW2.out HF.out
 · subst hr
   have HR := Lib.hid (show r = false from HP.out)
   have HF := Lib.hid hF2
   clear hF2
   unfold Pn
   go_wp2_with fail
   exact ⟨rfl, .no HR.out HF.out⟩
inductive GoEnd (r : Re) (N wb cb mb pb : Nat) (x : Prg) (s : PrgP) (w0 : World) (w : World) : Ending → World → Prop where
 | ok {T : List (List UInt8)} {n : Nat} {w' : World} (h : r = .ok T n) (hW : Ws w' N wb cb pb x s w0 n) (hM : Mp w' mb (mem T)) (hF : Fw (fun k => k = wb ∨ k = cb ∨ k = mb) w w') : GoEnd r N wb cb mb pb x s w0 w (.returned (.tuple #[])) w'
 | no {e : Nat} {w' : World} (h : r = .no e) (hF : Fw (fun k => k = wb ∨ k = cb ∨ k = mb) w w') : GoEnd r N wb cb mb pb x s w0 w (Pn (e : Int)) w'
def boolCells (l : List Bool) : List Value := l.map .bool
inductive FnEnd (r : Rc) (N wb cb pb : Nat) (x : Prg) (s : PrgP) (w0 : World) (w : World) : Ending → World → Prop where
 | ok {l : List Bool} {n : Nat} {v : Value} {w' : World} (h : r = .ok l n) (hv : w'.ownsRow w.heap.size 4 1 v l.length (boolCells l)) (hW : Ws w' N wb cb pb x s w0 n) (hF : Fw (fun k => k = wb ∨ k = cb) w w') : FnEnd r N wb cb pb x s w0 w (.returned v) w'
 | no {e : Nat} {w' : World} (h : r = .no e) (hF : Fw (fun k => k = wb ∨ k = cb) w w') : FnEnd r N wb cb pb x s w0 w (Pn (e : Int)) w'
theorem mem_set (T : List (List UInt8)) (s : List UInt8) (t : Bool) : mem (setT T s t) = withT (mem T) s t := by
 funext z
 unfold mem setT withT
 cases t with
 | true =>
   simp only [if_true, List.any_cons]
   by_cases h : z = s
   · subst h; simp
   · rw [if_neg h]; have : (s == z) = false := by simpa using fun e => h e.symm
     rw [this]; rfl
 | false =>
   simp only [Bool.false_eq_true, if_false, List.any_filter]
   by_cases h : z = s
   · subst h
     rw [if_pos rfl, List.any_eq_false]
     intro y _; simp
   · rw [if_neg h]
     congr 1
     funext y
     by_cases hy : y = z
     · subst hy; simp [h]
     · have : (y == z) = false := by simpa using hy
       rw [this, Bool.and_false]
theorem mem_app (T U : List (List UInt8)) : mem (T ++ U) = fun z => mem T z || mem U z := by
 funext z
 simp [mem, List.any_append]
theorem Mp.fw {S : Nat → Prop} {w w' : World} {b : Nat} {f : List UInt8 → Bool} (h : Mp w b f) (hF : Fw S w w') (hb : ¬ S b) : Mp w' b f := h.of_block (hF.block b h.lt hb)
theorem Mp.no_str {w : World} {b : Nat} {f : List UInt8 → Bool} (h : Mp w b f) : ∀ k, k = b → ∀ c, w.heap[k]? ≠ some (.cells c 9 (0, 0)) := fun k e c h' => by
 obtain ⟨es, clock, hb, _⟩ := h
 rw [e, hb] at h'
 cases h'
theorem Ws.ne_map {w : World} {N wb cb pb n : Nat} {x : Prg} {s : PrgP} {w0 : World} (h : Ws w N wb cb pb x s w0 n) {b : Nat} {f : List UInt8 → Bool} (hM : Mp w b f) : b ≠ wb ∧ b ≠ pb := by
 obtain ⟨es, clock, hb, _⟩ := hM
 exact ⟨fun e => (by have := h.wk; rw [← e, hb] at this; cases this), fun e => (by have := h.prg.cs; rw [← e, hb] at this; cases this)⟩
theorem Ws.set {w w' : World} {N wb cb pb n mb : Nat} {x : Prg} {s : PrgP} {w0 : World} (h : Ws w N wb cb pb x s w0 n) {f : List UInt8 → Bool} (hM : Mp w mb f) (hmc : mb ≠ cb) (hmN : N ≤ mb) (hF : Fw (fun k => k = mb) w w') : Ws w' N wb cb pb x s w0 n :=
 h.fw hF (fun k e => by omega) (fun k e => ⟨by rw [e]; exact (h.ne_map hM).1, by omega, by rw [e]; exact (h.ne_map hM).2, hM.no_str k e⟩)
/- Levels settled: rounds until none rises. -/
open Go.RowKit Go.ChangeMaps

theorem all_mem {T T' : List (List UInt8)} {es : List MapEntry} (h : ∀ s, mem T s = true ↔ InE es s) (hs : ∀ e ∈ es, ∀ s, e.key = .string (str s) → mem T' s = true) : T.all (mem T') = true := by
 rw [List.all_eq_true]
 intro s hm
 obtain ⟨e, he, hk⟩ := (h s).1 (by unfold mem; rw [List.any_eq_true]; exact ⟨s, hm, by simp⟩)
 exact hs e he s hk
theorem not_all {T T' : List (List UInt8)} {es : List MapEntry} (h : ∀ s, mem T s = true ↔ InE es s) {e : MapEntry} (he : e ∈ es) {s : List UInt8} (hk : e.key = .string (str s)) (hn : mem T' s = false) : T.all (mem T') = false := by
 rw [List.all_eq_false]
 have := (h s).2 ⟨e, he, hk⟩
 unfold mem at this
 rw [List.any_eq_true] at this
 obtain ⟨y, hy, he⟩ := this
 have : y = s := by simpa using he
 subst this
 exact ⟨y, hy, by rw [hn]; decide⟩
structure RgS (m r : Nat) (es : Array MapEntry) (clock : Nat) (seen : Array Nat) (T' : List (List UInt8)) (W : World) : Prop where
 it : W.heap[r]? = some (.mapIter (some m) clock seen clock)
 mp : W.heap[m]? = some (.map es clock)
 old : ∀ e ∈ es.toList, seen.contains e.born = true → ∀ s, e.key = .string (str s) → mem T' s = true

set_option maxRecDepth 100000 in
set_option maxHeartbeats 12800000 in
theorem settle1 (body : List (List UInt8) → Nat → Re) (hge : ∀ T n, n ≤ 65536 → (body T n).Ge n) (hst : ∀ T n T', body T n = .ok T' n → T' = T) (b4 b5 b6 N wb cb mb pb n k : Nat) (x : Prg) (s : PrgP) (T : List (List UInt8)) (w0 w : World)
   (hC : ∀ (W : World) (m : Nat) (T : List (List UInt8)) (n : Nat), Fw (fun k => k = wb ∨ k = cb ∨ k = mb) w W → Ws W N wb cb pb x s w0 n → Mp W m (mem T) → w.heap.size ≤ m → n ≤ 65536 → Calls Tryz.prog 114 #[.map (some m), .pointer (some ⟨b4, 0, none⟩), .pointer (some ⟨b5, 0, none⟩), .pointer (some ⟨b6, 0, none⟩)] W (GoEnd (body T n) N wb cb m pb x s w0 W))
   (hW : Ws w N wb cb pb x s w0 n) (hM : Mp w mb (mem T)) (hmN : N ≤ mb) (hmc : mb ≠ cb) (hn : n ≤ 65536) (hk : 65536 - n < k) :
   Calls Tryz.prog 113 #[.map (some mb), .func (.func 114) #[] #[.pointer (some ⟨b4, 0, none⟩), .pointer (some ⟨b5, 0, none⟩), .pointer (some ⟨b6, 0, none⟩)]] w (GoEnd (iterL body k T n) N wb cb mb pb x s w0 w) := by
 have HC := Lib.hid hC
 have HGe := Lib.hid hge
 have HSt := Lib.hid hst
 have HW0 := Lib.hid hW
 have HM0 := Lib.hid hM
 have HN := Lib.hid (And.intro hmN hmc)
 have HKN := Lib.hid (And.intro hn hk)
 obtain ⟨R, hR⟩ : ∃ R, R = iterL body k T n := ⟨_, rfl⟩
 rw [← hR]
 have HR := Lib.hid hR
 clear hC hge hst hW hM hmN hmc hn hk hR
 go_enter Tryz.func113, Tryz.ntmps113
 go_wp2_with fail
 go_step3
 go_wp2_with fail
 go_step3
 go_wp2_with fail
 go_loopg [] (65536 - n) (fun g wr => ∃ (T' : List (List UInt8)) (n' k' : Nat), n' + g = 65536 ∧ g < k' ∧ Hid (R = iterL body k' T' n') ∧ Hid (Mp wr mb (mem T')) ∧ Hid (Ws wr N wb cb pb x s w0 n') ∧ Hid (Fw (fun k => k = wb ∨ k = cb ∨ k = mb) w wr))
 case atStart => exact ⟨T, n, k, by have := HKN.out.1; omega, HKN.out.2, HR, HM0, HW0, Lib.hid (Fw.refl _ _)⟩
 case round =>
   obtain ⟨T', n', k', hg, hgk, hE, hM, hW, hF⟩ := hrel
   obtain ⟨wo, rfl⟩ : ∃ wo : World, wo = wr := ⟨_, rfl⟩
   obtain ⟨gO, rfl⟩ : ∃ q : Nat, q = gk := ⟨_, rfl⟩
   obtain ⟨k', rfl⟩ : ∃ q, k' = q + 1 := ⟨k' - 1, by omega⟩
   have hlw := hF.out.size
   go_wp2_with fail
   refine (lvCopied_any (mem T') mb wo hM.out).mono ?_
   rintro z w2 ⟨rfl, hM2, hB2⟩
   have HB2 := Lib.hid hB2
   have HF2 := Lib.hid (hF.out.new (Fw.of_below (S := fun _ => False) hB2) (fun _ e => e.elim))
   have hml := hM.out.lt
   have hbod := HC.out w2 wo.heap.size T' n' HF2.out (hW.out.later hB2) hM2 hlw (by omega)
   have HBod := Lib.hid hbod
   clear hB2 hM2 hbod
   go_wp2_with fail
   refine HBod.out.mono ?_
   intro z w3 h3
   rcases h3 with ⟨hr, hW3, hM3, hF3⟩ | ⟨hr, hF3⟩
   rotate_left
   · have HRR := Lib.hid (show R = .no _ from by rw [hE.out, iterL, hr]; rfl)
     have HFF := Lib.hid (HF2.out.new hF3 (fun j e => by rcases e with rfl | rfl | rfl; exact .inl (.inl rfl); exact .inl (.inr (.inl rfl)); exact .inr hlw))
     clear hr hF3
     unfold Pn
     go_wp2_with fail
     exact ⟨rfl, .no HRR.out HFF.out⟩
   rename_i T2 n2
   have hn2 := HGe.out T' n' (by omega) T2 n2 hr
   have HR2 := Lib.hid hr
   have hmb3 : mb ≠ wb ∧ mb ≠ pb := hW.out.ne_map hM.out
   have HM3 := Lib.hid (show Mp w3 mb (mem T') from (hM.out.later HB2.out).fw hF3 (fun e => by rcases e with e | e | e; exact hmb3.1 e; exact HN.out.2 e; omega))
   have HW3 := Lib.hid hW3
   have HF3 := Lib.hid (show Fw (fun k => k = wb ∨ k = cb ∨ k = mb) w w3 from HF2.out.new hF3 (fun j e => by rcases e with rfl | rfl | rfl; exact .inl (.inl rfl); exact .inl (.inr (.inl rfl)); exact .inr hlw))
   have HMm := Lib.hid hM3
   have hwo : wo.heap.size < w3.heap.size := hM3.lt
   have hmx : mb < w3.heap.size := HM3.out.lt
   obtain ⟨es, clock, hes, hS, hEs, hmem⟩ := hM3
   have HS := Lib.hid (And.intro hS (And.intro hEs hmem))
   have hrg := run_range_map (P := Tryz.prog) w3 97 9 129 wo.heap.size es clock Tryz.underlying97 hes
   have HI0 : Hid (RgS wo.heap.size w3.heap.size es clock #[] T' (w3.alloc (.mapIter (some wo.heap.size) clock #[] clock))) := Lib.hid ⟨heap_alloc_new w3 _, (Below.heap_alloc _ _ _ hwo).trans hes, fun e _ h => by simp at h⟩
   have HA0 := Lib.hid (show Fw (fun k => k = w3.heap.size) w3 (w3.alloc (.mapIter (some wo.heap.size) clock #[] clock)) from Fw.of_below ((Below.refl _ _).alloc (Nat.le_refl _) _))
   have HLt := Lib.hid (And.intro hwo hmx)
   have hneq : mb ≠ wo.heap.size := by omega
   clear hes hS hEs hmem hr hW3 hF3
   go_wp2_with fail
   generalize w3.alloc (.mapIter (some wo.heap.size) clock #[] clock) = w4 at HI0 HA0 ⊢
   clear hrg
   go_loopg [] ((leftOf es #[]).size) (fun g2 wz => ∃ seen, (leftOf es seen).size = g2 ∧ Hid (RgS wo.heap.size w3.heap.size es clock seen T' wz) ∧ Hid (Fw (fun k => k = w3.heap.size) w3 wz))
   case atStart => exact ⟨#[], rfl, HI0, HA0⟩
   case round =>
     obtain ⟨seen, hls, hI, hFz⟩ := hrel
     obtain ⟨wz, rfl⟩ : ∃ wz : World, wz = wr := ⟨_, rfl⟩
     obtain ⟨gI, rfl⟩ : ∃ q : Nat, q = gk := ⟨_, rfl⟩
     have hlr := lt_blk hI.out.it
     have law := run_next_at (P := Tryz.prog) wz 0 w3.heap.size wo.heap.size clock clock seen es clock hI.out.it hI.out.mp HS.out.1.1 (Nat.le_refl _)
     have HWz := Lib.hid (fun (W : World) (hf : Fw (fun k => k = w3.heap.size) w3 W) => show Below w3.heap.size w3 W from hf.below (Nat.le_refl _) (fun k e => Nat.le_of_eq e.symm))
     rcases law with ⟨h0, hrun⟩ | ⟨e, he, w5, hw5, hrun⟩
     · have hnx : ∀ ty, (Instr.next (.pointer (some ⟨w3.heap.size, 0, none⟩)) false ty).run Tryz.prog wz = _ := fun _ => hrun
       have hall := all_mem (T := T2) (T' := T') HS.out.2.2 (fun e he => hI.out.old e he (all_seen es seen h0 e he))
       have HRR := Lib.hid (show R = .ok T' n2 from by rw [hE.out, iterL, HR2.out]; simp only [Re.bind]; rw [if_pos hall])
       clear hrun h0 hall
       have hB := HWz.out wz hFz.out
       have HEnd := Lib.hid (show GoEnd R N wb cb mb pb x s w0 w (.returned (.tuple #[])) wz from .ok HRR.out (HW3.out.later hB) (HM3.out.later hB) (HF3.out.new (Fw.of_below (S := fun _ => False) hB) (fun _ e => e.elim)))
       clear hB
       go_wp2_with fail
       show bodyPost _ _ _ Exit.normal _ _
       go_end0
       exact HEnd.out
     · have hmr : wo.heap.size ≠ w3.heap.size := by have := HLt.out.1; omega
       have hwh : w5.heap = wz.heap := by rcases hw5 with rfl | rfl <;> rfl
       have hw5F : Fw (fun k => k = w3.heap.size) wz w5 := by
         rcases hw5 with rfl | rfl
         · exact Fw.refl _ _
         · exact (Fw.refl _ _).drew
       have hl5 : w3.heap.size < w5.heap.size := by rw [hwh]; exact hlr
       have hit := setBlock_same hl5 (.mapIter (some wo.heap.size) clock (seen.push e.born) clock)
       have hmp : (setBlock w5 w3.heap.size (.mapIter (some wo.heap.size) clock (seen.push e.born) clock)).heap[wo.heap.size]? = some (.map es clock) := (setBlock_other hmr _).trans (by rw [hwh]; exact hI.out.mp)
       have hF6 : Fw (fun k => k = w3.heap.size) w3 (setBlock w5 w3.heap.size (.mapIter (some wo.heap.size) clock (seen.push e.born) clock)) :=
         (hFz.out.trans hw5F).trans ⟨rfl, rfl, rfl, by rw [setBlock_size]; exact Nat.le_refl _, fun k _ hn => setBlock_other hn _⟩
       generalize setBlock w5 w3.heap.size (.mapIter (some wo.heap.size) clock (seen.push e.born) clock) = W6 at hrun hit hmp hF6
       have hel := (mem_left he).1
       obtain ⟨s0, hky, hv⟩ := HS.out.2.1 e hel
       have hen := run_entry_at (P := Tryz.prog) W6 w3.heap.size wo.heap.size clock seen es clock e hit hmp hel HS.out.1.2.1
       rw [hky, hv] at hrun hen
       have hnx : ∀ ty, (Instr.next (.pointer (some ⟨w3.heap.size, 0, none⟩)) false ty).run Tryz.prog wz = _ := fun _ => hrun
       have hB6 := HWz.out W6 hF6
       have HSec := Lib.hid (lvSecret_any (mem T') s0 mb W6 (HM3.out.later hB6))
       have HI6 := Lib.hid (And.intro hit (And.intro hmp (And.intro hF6 hB6)))
       have HEL := Lib.hid (And.intro hel (And.intro hky he))
       clear hrun hit hmp hF6 hw5F hl5 hwh hw5 hky hv he hel hB6 hlr
       obtain ⟨t, ht⟩ : ∃ t, t = mem T' s0 := ⟨_, rfl⟩
       rw [← ht] at HSec
       have HT := Lib.hid ht
       clear ht
       go_wp2_with fail
       refine HSec.out.mono ?_
       rintro z w7 ⟨rfl, hB7⟩
       have HF7 := Lib.hid (show Fw (fun k => k = w3.heap.size) w3 w7 from HI6.out.2.2.1.new (Fw.of_below (S := fun _ => False) hB7) (fun _ e => e.elim))
       have HI7 := Lib.hid (And.intro ((hB7.block _ (lt_blk HI6.out.1)).trans HI6.out.1) ((hB7.block _ (lt_blk HI6.out.2.1)).trans HI6.out.2.1))
       have HB7 := Lib.hid (HWz.out w7 HF7.out)
       clear hB7 HSec hen
       cases t with
       | true =>
         have HRS := Lib.hid (show RgS wo.heap.size w3.heap.size es clock (seen.push e.born) T' w7 from ⟨HI7.out.1, HI7.out.2, fun y hy hc s hs => by
           rw [contains_push] at hc
           rcases Bool.or_eq_true _ _ ▸ hc with h1 | h1
           · exact hI.out.old y hy h1 s hs
           · have : y = e := born_inj HS.out.1.2.1 hy HEL.out.1 (beq_iff_eq.1 h1)
             subst this
             have h2 := HEL.out.2.1.symm.trans hs
             simp at h2
             rw [← strInj h2]
             exact HT.out.symm⟩)
         go_wp2_with fail
         go_roundg ((leftOf es (seen.push e.born)).size)
         case rel => exact ⟨seen.push e.born, rfl, HRS, HF7⟩
         case measure => rw [← hls]; exact left_shrinks es seen e HEL.out.2.2
       | false =>
         have hna := not_all (T := T2) (T' := T') HS.out.2.2 HEL.out.1 HEL.out.2.1 HT.out.symm
         have HRR := Lib.hid (show R = iterL body k' (T' ++ T2) n2 from by rw [hE.out, iterL, HR2.out]; simp only [Re.bind]; rw [hna]; rfl)
         have hlt2 : n' < n2 := by
           rcases Nat.lt_or_ge n' n2 with h | h
           · exact h
           · have h2 : n2 = n' := by omega
             have h3 := HSt.out T' n' T2 (by rw [← h2]; rw [h2]; rw [← h2] at HR2; rw [h2] at HR2; exact HR2.out)
             rw [h3] at hna
             have : T'.all (mem T') = true := List.all_eq_true.2 fun s hs => by unfold mem; rw [List.any_eq_true]; exact ⟨s, hs, by simp⟩
             rw [this] at hna; cases hna
         have HJ := Lib.hid (lvJoin_any (mem T') (mem T2) mb wo.heap.size w7 (HM3.out.later HB7.out) (HMm.out.later HB7.out) hneq)
         clear hna
         go_wp2_with fail
         refine HJ.out.mono ?_
         rintro z w8 ⟨rfl, hM8, hB8⟩
         have HM8 := Lib.hid (show Mp w8 mb (mem (T' ++ T2)) from by rw [mem_app]; exact hM8)
         have HF8 := Lib.hid (Fw.of_but hB8)
         clear hM8 hB8 HJ
         have HW8 := Lib.hid ((HW3.out.later HB7.out).set (HM3.out.later HB7.out) HN.out.2 HN.out.1 HF8.out)
         have HFw8 := Lib.hid (show Fw (fun k => k = wb ∨ k = cb ∨ k = mb) w w8 from (HF3.out.new (Fw.of_below (S := fun _ => False) HB7.out) (fun _ e => e.elim)).new HF8.out (fun j e => .inl (.inr (.inr e))))
         have HGb := Lib.hid hn2.2
         go_wp2_with fail
         go_roundg (65536 - n2)
         case rel => exact ⟨T' ++ T2, n2, k', by have := HGb.out; omega, by omega, HRR, HM8, HW8, HFw8⟩
         case measure => have := HGb.out; omega

set_option maxRecDepth 100000 in
set_option maxHeartbeats 12800000 in
theorem settle2 (body : List (List UInt8) → Nat → Re) (hge : ∀ T n, n ≤ 65536 → (body T n).Ge n) (hst : ∀ T n T', body T n = .ok T' n → T' = T) (b4 b5 b6 N wb cb mb pb n k : Nat) (x : Prg) (s : PrgP) (T : List (List UInt8)) (w0 w : World)
   (hC : ∀ (W : World) (m : Nat) (T : List (List UInt8)) (n : Nat), Fw (fun k => k = wb ∨ k = cb ∨ k = mb) w W → Ws W N wb cb pb x s w0 n → Mp W m (mem T) → w.heap.size ≤ m → n ≤ 65536 → Calls Tryz.prog 115 #[.map (some m), .pointer (some ⟨b4, 0, none⟩), .pointer (some ⟨b5, 0, none⟩), .pointer (some ⟨b6, 0, none⟩)] W (GoEnd (body T n) N wb cb m pb x s w0 W))
   (hW : Ws w N wb cb pb x s w0 n) (hM : Mp w mb (mem T)) (hmN : N ≤ mb) (hmc : mb ≠ cb) (hn : n ≤ 65536) (hk : 65536 - n < k) :
   Calls Tryz.prog 113 #[.map (some mb), .func (.func 115) #[] #[.pointer (some ⟨b4, 0, none⟩), .pointer (some ⟨b5, 0, none⟩), .pointer (some ⟨b6, 0, none⟩)]] w (GoEnd (iterL body k T n) N wb cb mb pb x s w0 w) := by
 have HC := Lib.hid hC
 have HGe := Lib.hid hge
 have HSt := Lib.hid hst
 have HW0 := Lib.hid hW
 have HM0 := Lib.hid hM
 have HN := Lib.hid (And.intro hmN hmc)
 have HKN := Lib.hid (And.intro hn hk)
 obtain ⟨R, hR⟩ : ∃ R, R = iterL body k T n := ⟨_, rfl⟩
 rw [← hR]
 have HR := Lib.hid hR
 clear hC hge hst hW hM hmN hmc hn hk hR
 go_enter Tryz.func113, Tryz.ntmps113
 go_wp2_with fail
 go_step3
 go_wp2_with fail
 go_step3
 go_wp2_with fail
 go_loopg [] (65536 - n) (fun g wr => ∃ (T' : List (List UInt8)) (n' k' : Nat), n' + g = 65536 ∧ g < k' ∧ Hid (R = iterL body k' T' n') ∧ Hid (Mp wr mb (mem T')) ∧ Hid (Ws wr N wb cb pb x s w0 n') ∧ Hid (Fw (fun k => k = wb ∨ k = cb ∨ k = mb) w wr))
 case atStart => exact ⟨T, n, k, by have := HKN.out.1; omega, HKN.out.2, HR, HM0, HW0, Lib.hid (Fw.refl _ _)⟩
 case round =>
   obtain ⟨T', n', k', hg, hgk, hE, hM, hW, hF⟩ := hrel
   obtain ⟨wo, rfl⟩ : ∃ wo : World, wo = wr := ⟨_, rfl⟩
   obtain ⟨gO, rfl⟩ : ∃ q : Nat, q = gk := ⟨_, rfl⟩
   obtain ⟨k', rfl⟩ : ∃ q, k' = q + 1 := ⟨k' - 1, by omega⟩
   have hlw := hF.out.size
   go_wp2_with fail
   refine (lvCopied_any (mem T') mb wo hM.out).mono ?_
   rintro z w2 ⟨rfl, hM2, hB2⟩
   have HB2 := Lib.hid hB2
   have HF2 := Lib.hid (hF.out.new (Fw.of_below (S := fun _ => False) hB2) (fun _ e => e.elim))
   have hml := hM.out.lt
   have hbod := HC.out w2 wo.heap.size T' n' HF2.out (hW.out.later hB2) hM2 hlw (by omega)
   have HBod := Lib.hid hbod
   clear hB2 hM2 hbod
   go_wp2_with fail
   refine HBod.out.mono ?_
   intro z w3 h3
   rcases h3 with ⟨hr, hW3, hM3, hF3⟩ | ⟨hr, hF3⟩
   rotate_left
   · have HRR := Lib.hid (show R = .no _ from by rw [hE.out, iterL, hr]; rfl)
     have HFF := Lib.hid (HF2.out.new hF3 (fun j e => by rcases e with rfl | rfl | rfl; exact .inl (.inl rfl); exact .inl (.inr (.inl rfl)); exact .inr hlw))
     clear hr hF3
     unfold Pn
     go_wp2_with fail
     exact ⟨rfl, .no HRR.out HFF.out⟩
   rename_i T2 n2
   have hn2 := HGe.out T' n' (by omega) T2 n2 hr
   have HR2 := Lib.hid hr
   have hmb3 : mb ≠ wb ∧ mb ≠ pb := hW.out.ne_map hM.out
   have HM3 := Lib.hid (show Mp w3 mb (mem T') from (hM.out.later HB2.out).fw hF3 (fun e => by rcases e with e | e | e; exact hmb3.1 e; exact HN.out.2 e; omega))
   have HW3 := Lib.hid hW3
   have HF3 := Lib.hid (show Fw (fun k => k = wb ∨ k = cb ∨ k = mb) w w3 from HF2.out.new hF3 (fun j e => by rcases e with rfl | rfl | rfl; exact .inl (.inl rfl); exact .inl (.inr (.inl rfl)); exact .inr hlw))
   have HMm := Lib.hid hM3
   have hwo : wo.heap.size < w3.heap.size := hM3.lt
   have hmx : mb < w3.heap.size := HM3.out.lt
   obtain ⟨es, clock, hes, hS, hEs, hmem⟩ := hM3
   have HS := Lib.hid (And.intro hS (And.intro hEs hmem))
   have hrg := run_range_map (P := Tryz.prog) w3 97 9 129 wo.heap.size es clock Tryz.underlying97 hes
   have HI0 : Hid (RgS wo.heap.size w3.heap.size es clock #[] T' (w3.alloc (.mapIter (some wo.heap.size) clock #[] clock))) := Lib.hid ⟨heap_alloc_new w3 _, (Below.heap_alloc _ _ _ hwo).trans hes, fun e _ h => by simp at h⟩
   have HA0 := Lib.hid (show Fw (fun k => k = w3.heap.size) w3 (w3.alloc (.mapIter (some wo.heap.size) clock #[] clock)) from Fw.of_below ((Below.refl _ _).alloc (Nat.le_refl _) _))
   have HLt := Lib.hid (And.intro hwo hmx)
   have hneq : mb ≠ wo.heap.size := by omega
   clear hes hS hEs hmem hr hW3 hF3
   go_wp2_with fail
   generalize w3.alloc (.mapIter (some wo.heap.size) clock #[] clock) = w4 at HI0 HA0 ⊢
   clear hrg
   go_loopg [] ((leftOf es #[]).size) (fun g2 wz => ∃ seen, (leftOf es seen).size = g2 ∧ Hid (RgS wo.heap.size w3.heap.size es clock seen T' wz) ∧ Hid (Fw (fun k => k = w3.heap.size) w3 wz))
   case atStart => exact ⟨#[], rfl, HI0, HA0⟩
   case round =>
     obtain ⟨seen, hls, hI, hFz⟩ := hrel
     obtain ⟨wz, rfl⟩ : ∃ wz : World, wz = wr := ⟨_, rfl⟩
     obtain ⟨gI, rfl⟩ : ∃ q : Nat, q = gk := ⟨_, rfl⟩
     have hlr := lt_blk hI.out.it
     have law := run_next_at (P := Tryz.prog) wz 0 w3.heap.size wo.heap.size clock clock seen es clock hI.out.it hI.out.mp HS.out.1.1 (Nat.le_refl _)
     have HWz := Lib.hid (fun (W : World) (hf : Fw (fun k => k = w3.heap.size) w3 W) => show Below w3.heap.size w3 W from hf.below (Nat.le_refl _) (fun k e => Nat.le_of_eq e.symm))
     rcases law with ⟨h0, hrun⟩ | ⟨e, he, w5, hw5, hrun⟩
     · have hnx : ∀ ty, (Instr.next (.pointer (some ⟨w3.heap.size, 0, none⟩)) false ty).run Tryz.prog wz = _ := fun _ => hrun
       have hall := all_mem (T := T2) (T' := T') HS.out.2.2 (fun e he => hI.out.old e he (all_seen es seen h0 e he))
       have HRR := Lib.hid (show R = .ok T' n2 from by rw [hE.out, iterL, HR2.out]; simp only [Re.bind]; rw [if_pos hall])
       clear hrun h0 hall
       have hB := HWz.out wz hFz.out
       have HEnd := Lib.hid (show GoEnd R N wb cb mb pb x s w0 w (.returned (.tuple #[])) wz from .ok HRR.out (HW3.out.later hB) (HM3.out.later hB) (HF3.out.new (Fw.of_below (S := fun _ => False) hB) (fun _ e => e.elim)))
       clear hB
       go_wp2_with fail
       show bodyPost _ _ _ Exit.normal _ _
       go_end0
       exact HEnd.out
     · have hmr : wo.heap.size ≠ w3.heap.size := by have := HLt.out.1; omega
       have hwh : w5.heap = wz.heap := by rcases hw5 with rfl | rfl <;> rfl
       have hw5F : Fw (fun k => k = w3.heap.size) wz w5 := by
         rcases hw5 with rfl | rfl
         · exact Fw.refl _ _
         · exact (Fw.refl _ _).drew
       have hl5 : w3.heap.size < w5.heap.size := by rw [hwh]; exact hlr
       have hit := setBlock_same hl5 (.mapIter (some wo.heap.size) clock (seen.push e.born) clock)
       have hmp : (setBlock w5 w3.heap.size (.mapIter (some wo.heap.size) clock (seen.push e.born) clock)).heap[wo.heap.size]? = some (.map es clock) := (setBlock_other hmr _).trans (by rw [hwh]; exact hI.out.mp)
       have hF6 : Fw (fun k => k = w3.heap.size) w3 (setBlock w5 w3.heap.size (.mapIter (some wo.heap.size) clock (seen.push e.born) clock)) :=
         (hFz.out.trans hw5F).trans ⟨rfl, rfl, rfl, by rw [setBlock_size]; exact Nat.le_refl _, fun k _ hn => setBlock_other hn _⟩
       generalize setBlock w5 w3.heap.size (.mapIter (some wo.heap.size) clock (seen.push e.born) clock) = W6 at hrun hit hmp hF6
       have hel := (mem_left he).1
       obtain ⟨s0, hky, hv⟩ := HS.out.2.1 e hel
       have hen := run_entry_at (P := Tryz.prog) W6 w3.heap.size wo.heap.size clock seen es clock e hit hmp hel HS.out.1.2.1
       rw [hky, hv] at hrun hen
       have hnx : ∀ ty, (Instr.next (.pointer (some ⟨w3.heap.size, 0, none⟩)) false ty).run Tryz.prog wz = _ := fun _ => hrun
       have hB6 := HWz.out W6 hF6
       have HSec := Lib.hid (lvSecret_any (mem T') s0 mb W6 (HM3.out.later hB6))
       have HI6 := Lib.hid (And.intro hit (And.intro hmp (And.intro hF6 hB6)))
       have HEL := Lib.hid (And.intro hel (And.intro hky he))
       clear hrun hit hmp hF6 hw5F hl5 hwh hw5 hky hv he hel hB6 hlr
       obtain ⟨t, ht⟩ : ∃ t, t = mem T' s0 := ⟨_, rfl⟩
       rw [← ht] at HSec
       have HT := Lib.hid ht
       clear ht
       go_wp2_with fail
       refine HSec.out.mono ?_
       rintro z w7 ⟨rfl, hB7⟩
       have HF7 := Lib.hid (show Fw (fun k => k = w3.heap.size) w3 w7 from HI6.out.2.2.1.new (Fw.of_below (S := fun _ => False) hB7) (fun _ e => e.elim))
       have HI7 := Lib.hid (And.intro ((hB7.block _ (lt_blk HI6.out.1)).trans HI6.out.1) ((hB7.block _ (lt_blk HI6.out.2.1)).trans HI6.out.2.1))
       have HB7 := Lib.hid (HWz.out w7 HF7.out)
       clear hB7 HSec hen
       cases t with
       | true =>
         have HRS := Lib.hid (show RgS wo.heap.size w3.heap.size es clock (seen.push e.born) T' w7 from ⟨HI7.out.1, HI7.out.2, fun y hy hc s hs => by
           rw [contains_push] at hc
           rcases Bool.or_eq_true _ _ ▸ hc with h1 | h1
           · exact hI.out.old y hy h1 s hs
           · have : y = e := born_inj HS.out.1.2.1 hy HEL.out.1 (beq_iff_eq.1 h1)
             subst this
             have h2 := HEL.out.2.1.symm.trans hs
             simp at h2
             rw [← strInj h2]
             exact HT.out.symm⟩)
         go_wp2_with fail
         go_roundg ((leftOf es (seen.push e.born)).size)
         case rel => exact ⟨seen.push e.born, rfl, HRS, HF7⟩
         case measure => rw [← hls]; exact left_shrinks es seen e HEL.out.2.2
       | false =>
         have hna := not_all (T := T2) (T' := T') HS.out.2.2 HEL.out.1 HEL.out.2.1 HT.out.symm
         have HRR := Lib.hid (show R = iterL body k' (T' ++ T2) n2 from by rw [hE.out, iterL, HR2.out]; simp only [Re.bind]; rw [hna]; rfl)
         have hlt2 : n' < n2 := by
           rcases Nat.lt_or_ge n' n2 with h | h
           · exact h
           · have h2 : n2 = n' := by omega
             have h3 := HSt.out T' n' T2 (by rw [← h2]; rw [h2]; rw [← h2] at HR2; rw [h2] at HR2; exact HR2.out)
             rw [h3] at hna
             have : T'.all (mem T') = true := List.all_eq_true.2 fun s hs => by unfold mem; rw [List.any_eq_true]; exact ⟨s, hs, by simp⟩
             rw [this] at hna; cases hna
         have HJ := Lib.hid (lvJoin_any (mem T') (mem T2) mb wo.heap.size w7 (HM3.out.later HB7.out) (HMm.out.later HB7.out) hneq)
         clear hna
         go_wp2_with fail
         refine HJ.out.mono ?_
         rintro z w8 ⟨rfl, hM8, hB8⟩
         have HM8 := Lib.hid (show Mp w8 mb (mem (T' ++ T2)) from by rw [mem_app]; exact hM8)
         have HF8 := Lib.hid (Fw.of_but hB8)
         clear hM8 hB8 HJ
         have HW8 := Lib.hid ((HW3.out.later HB7.out).set (HM3.out.later HB7.out) HN.out.2 HN.out.1 HF8.out)
         have HFw8 := Lib.hid (show Fw (fun k => k = wb ∨ k = cb ∨ k = mb) w w8 from (HF3.out.new (Fw.of_below (S := fun _ => False) HB7.out) (fun _ e => e.elim)).new HF8.out (fun j e => .inl (.inr (.inr e))))
         have HGb := Lib.hid hn2.2
         go_wp2_with fail
         go_roundg (65536 - n2)
         case rel => exact ⟨T' ++ T2, n2, k', by have := HGb.out; omega, by omega, HRR, HM8, HW8, HFw8⟩
         case measure => have := HGb.out; omega
/- The walker goes through statements: a list of them. -/
open Go.RowKit Go.ChangeMaps

mutual
theorem St.At.leq {w w' : World} {N : Nat} (hw : LeW w w') : ∀ (x : St) (b o : Nat), St.At w N x b o → St.At w' N x b o
 | .mk kd nm ns e a as' lo hi bd el, b, o, h => by
   obtain ⟨⟨h0, h1, h2, h3, h4, h5⟩, ⟨p1, c1, g1, s1⟩, he, ha, ⟨p2, c2, g2, s2⟩, ⟨p3, c3, g3, s3⟩, ⟨p4, c4, g4, s4⟩⟩ := h
   exact ⟨⟨hw _ _ _ h0, hw _ _ _ h1, hw _ _ _ h2, hw _ _ _ h3, h4, h5⟩,
     ⟨p1, c1, hw _ _ _ g1, s1.1, Sl.leq s1.2 (Nat.le_refl _) fun b' o' hr => Row.imp (fun z o'' hz => hw _ _ _ hz) ns o' hr⟩, Ex.At.leq hw e b _ he, Ex.At.leq hw a b _ ha,
     ⟨p2, c2, hw _ _ _ g2, Sl.leq s2 (Nat.le_refl _) fun b' o' hr => Exs.At.leq hw as' b' o' hr⟩,
     ⟨p3, c3, hw _ _ _ g3, Sl.leq s3 (Nat.le_refl _) fun b' o' hr => Sts.At.leq hw bd b' o' hr⟩,
     ⟨p4, c4, hw _ _ _ g4, Sl.leq s4 (Nat.le_refl _) fun b' o' hr => Sts.At.leq hw el b' o' hr⟩⟩
theorem Sts.At.leq {w w' : World} {N : Nat} (hw : LeW w w') : ∀ (l : Sts) (b o : Nat), Sts.At w N l b o → Sts.At w' N l b o
 | .nil, _, _, _ => trivial
 | .cons x r, b, o, h => ⟨St.At.leq hw x b o h.1, Sts.At.leq hw r b (o + 16) h.2⟩
end
theorem Ws.step {w : World} {N wb cb pb n : Nat} {x : Prg} {s : PrgP} {w0 : World} (h : Ws w N wb cb pb x s w0 n) : Ws (w.setCell ⟨wb, 1, none⟩ (.int .i64 ((n : Int) + 1))) N wb cb pb x s w0 (n + 1) ∧ Fw (fun k => k = wb) w (w.setCell ⟨wb, 1, none⟩ (.int .i64 ((n : Int) + 1))) := by
 have hF : Fw (fun k => k = wb) w (w.setCell ⟨wb, 1, none⟩ (.int .i64 ((n : Int) + 1))) := ⟨rfl, rfl, rfl, by simp [World.setCell], fun k _ hn => Below.heap_setCell _ ⟨wb, 1, none⟩ _ _ hn⟩
 have hst : ∀ k, k = wb → ∀ c, w.heap[k]? ≠ some (.cells c 9 (0, 0)) := fun k e c h' => by
   rw [e, h.wk] at h'
   injection h' with h'
   injection h' with _ e' _
   exact absurd e' (by decide)
 have nc : cb ≠ wb := fun e => by obtain ⟨es, cl, hb⟩ := h.cb_map; rw [e, h.wk] at hb; cases hb
 have np : pb ≠ wb := fun e => by
   have := h.prg.cs
   rw [e, h.wk] at this
   injection this with this
   injection this with _ e' _
   exact absurd e' (by decide)
 have hB := hF.below h.lts.2.2.1 (fun k e => by rw [e]; exact h.lts.1)
 refine ⟨⟨?_, h.ca.fw hF nc hst, ⟨(hF.block pb (lt_blk h.prg.cs) np).trans h.prg.cs, h.prg.ok.later hB (Nat.le_refl N)⟩, h.old.trans hB, h.z, h.lts.1, h.lts.2.1, Nat.le_trans h.lts.2.2.1 hF.size, h.lts.2.2.2⟩, hF⟩
 have := setc (j := 1) h.wk (.int .i64 ((n : Int) + 1))
 rw [this]
 rfl
def StTo (x : Prg) (s : PrgP) (i : Nat) (fn : Fnc) (f : List UInt8 → Nat) (cf : Nat → Nat → Rc) (wb cb pb N : Nat) (w0 : World) (m : Nat) : Prop := ∀ (y : St), y.size < m → ∀ (deep : Nat) (ar : List (List UInt8)) (b o mb n : Nat) (T : List (List UInt8)) (w : World), y.chk x fn f i deep ar = 0 → y.At (zc w0) N b o → b < N → y.big ≤ 1048576 → Ws w N wb cb pb x s w0 n → Mp w mb (mem T) → N ≤ mb → mb ≠ cb → n ≤ 65536 →
   Calls Tryz.prog 87 #[.pointer (some ⟨wb, 0, none⟩), .int .i64 (i : Int), .pointer (some ⟨b, o, none⟩), .map (some mb)] w (GoEnd (y.go x fn cf T n) N wb cb mb pb x s w0 w)
def StsTo (x : Prg) (s : PrgP) (i : Nat) (fn : Fnc) (f : List UInt8 → Nat) (cf : Nat → Nat → Rc) (wb cb pb N : Nat) (w0 : World) (m : Nat) : Prop := ∀ (l : Sts), l.size < m → ∀ (deep : Nat) (ar : List (List UInt8)) (p : Option Addr) (c mb n : Nat) (T : List (List UInt8)) (w : World), l.chk x fn f i deep ar = 0 → l.In (zc w0) N p → l.big ≤ 1048576 → Ws w N wb cb pb x s w0 n → Mp w mb (mem T) → N ≤ mb → mb ≠ cb → n ≤ 65536 →
   Calls Tryz.prog 59 #[.pointer (some ⟨wb, 0, none⟩), .int .i64 (i : Int), .slice p l.len c, .map (some mb)] w (GoEnd (l.go x fn cf T n) N wb cb mb pb x s w0 w)
theorem chkS_cons {x : Prg} {fn : Fnc} {f : List UInt8 → Nat} {fi deep : Nat} {ar : List (List UInt8)} {y : St} {r : Sts} (h : (Sts.cons y r).chk x fn f fi deep ar = 0) : y.chk x fn f fi deep ar = 0 ∧ r.chk x fn f fi deep ar = 0 := by
 rw [Sts.chk] at h
 by_cases h1 : y.chk x fn f fi deep ar = 0
 · rw [seq_ok h1] at h; exact ⟨h1, h⟩
 · rw [seq_no h1] at h; exact absurd h h1
theorem GoEnd.after {r r' : Re} {N wb cb mb pb : Nat} {x : Prg} {s : PrgP} {w0 w w1 : World} {z : Ending} {w2 : World} (h : GoEnd r N wb cb mb pb x s w0 w1 z w2) (e : r' = r) (hF : Fw (fun k => k = wb ∨ k = cb ∨ k = mb) w w1) : GoEnd r' N wb cb mb pb x s w0 w z w2 := by
 subst e
 rcases h with ⟨h, hW, hM, hF2⟩ | ⟨h, hF2⟩
 · exact .ok h hW hM (hF.trans hF2)
 · exact .no h (hF.trans hF2)
set_option maxRecDepth 100000 in
set_option maxHeartbeats 12800000 in
theorem goStmts_step (x : Prg) (s : PrgP) (i : Nat) (fn : Fnc) (f : List UInt8 → Nat) (cf : Nat → Nat → Rc) (wb cb pb N : Nat) (w0 : World) (_hi : x.fns[i]? = some fn) (hcf : CfGe cf) (m : Nat) (ih : StTo x s i fn f cf wb cb pb N w0 m) : StsTo x s i fn f cf wb cb pb N w0 (m + 1) := by
 intro l hsz deep ar p c mb n T w hchk hl hbig hW hM hmN hmc hn
 obtain ⟨lb, lo, hp, hlb, hla⟩ : ∃ b o, (l.len = 0 ∨ p = some ⟨b, o, none⟩) ∧ (b < N ∨ l.len = 0) ∧ l.At (zc w0) N b o := by
   rcases hl.2 with h0 | ⟨b, o, hp, hb, ha⟩
   · exact ⟨0, 0, .inl h0, .inr h0, by cases l with | nil => trivial | cons => simp [Sts.len] at h0⟩
   · exact ⟨b, o, .inr hp, .inl hb, ha⟩
 have hma := hl.1
 have IH := Lib.hid ih
 have HLB := Lib.hid hlb
 have HLA := Lib.hid hla
 have HN := Lib.hid (And.intro hmN hmc)
 have HCF := Lib.hid hcf
 have HCH := Lib.hid hchk
 have HBG := Lib.hid (And.intro hbig hsz)
 obtain ⟨R, hR⟩ : ∃ R, R = l.go x fn cf T n := ⟨_, rfl⟩
 rw [← hR]
 have HR := Lib.hid hR
 have HW0 := Lib.hid hW
 have HM0 := Lib.hid hM
 have HN0 := Lib.hid hn
 clear hl hlb hla ih hmN hmc hcf hchk hbig hsz hR hW hM hn _hi
 go_enter Tryz.func59, Tryz.ntmps59
 go_wp2_with fail
 go_loopw [11] (fun j wr => ∃ (k : Nat) (r : Sts) (T' : List (List UInt8)) (n' : Nat), j = .int .i64 k ∧ k + r.len = l.len ∧ r.size ≤ l.size ∧ r.big ≤ l.big ∧ n' ≤ 65536 ∧ Hid (r.At (zc w0) N lb (lo + k * 16)) ∧ Hid (r.chk x fn f i deep ar = 0) ∧ Hid (R = r.go x fn cf T' n') ∧ Hid (Ws wr N wb cb pb x s w0 n') ∧ Hid (Mp wr mb (mem T')) ∧ Hid (Fw (fun k => k = wb ∨ k = cb ∨ k = mb) w wr)) (fun j _ => l.len - (intOf j).toNat)
 case atStart => exact ⟨0, l, T, n, rfl, by omega, Nat.le_refl _, Nat.le_refl _, HN0.out, Lib.hid (by rw [Nat.zero_mul]; exact HLA.out), HCH, HR, HW0, HM0, Lib.hid (Fw.refl _ _)⟩
 case round =>
   obtain ⟨k, r, T', n', rfl, hk, hrs, hrb, hn', hr, hck, hE, hWr, hMr, hFr⟩ := hrel
   cases r with
   | nil =>
     simp only [Sts.len] at hk
     have hge : ¬ k < l.len := by omega
     have HEnd := Lib.hid (show GoEnd R N wb cb mb pb x s w0 w (.returned (.tuple #[])) wr from .ok (by rw [hE.out, Sts.go]) hWr.out hMr.out hFr.out)
     go_wp2_with fail
     go_end0
     exact HEnd.out
   | cons y r =>
     obtain ⟨hy, hr'⟩ := hr.out
     simp only [Sts.len] at hk
     have hys : y.size + r.size + 1 ≤ l.size := by simp only [Sts.size] at hrs; exact hrs
     have hyb : y.big + r.big ≤ l.big := by simp only [Sts.big] at hrb; exact hrb
     have hlt : k < l.len := by omega
     have hlbN : lb < N := by have := HLB.out; omega
     have hp' : p = some ⟨lb, lo, none⟩ := by
       rcases hp with h0 | h0
       · omega
       · exact h0
     have HCK := Lib.hid (chkS_cons hck.out)
     have HRr := Lib.hid hr'
     subst hp'
     have c1 := cell_blk hWr.out.wk (j := 1) rfl
     simp only [List.getElem_toArray, List.getElem_cons_succ, List.getElem_cons_zero] at c1
     by_cases hlim : n' < 65536
     rotate_left
     · have hdi : decide ((n' : Int) < 65536) = false := decide_eq_false (by omega)
       have HEnd := Lib.hid (show GoEnd R N wb cb mb pb x s w0 w (Pn 13) wr from .no (e := 13) (by rw [hE.out, Sts.go, if_neg hlim]) hFr.out)
       unfold Pn at HEnd
       go_wp2_with fail
       refine (smust_no 13 _).mono ?_
       rintro z w2 ⟨rfl, rfl⟩
       unfold Pn
       go_wp2_with fail
       exact ⟨rfl, HEnd.out⟩
     · have hdi : decide ((n' : Int) < 65536) = true := decide_eq_true (by omega)
       have hst := hWr.out.step
       have f1 : wr.frozen? ⟨wb, 1, none⟩ = false := by simp [World.frozen?, hWr.out.wk]
       have hmw := (hWr.out.ne_map hMr.out).1
       have HS := Lib.hid (show Ws (wr.setCell ⟨wb, 1, none⟩ (.int .i64 ((n' : Int) + 1))) N wb cb pb x s w0 (n' + 1) ∧ Mp (wr.setCell ⟨wb, 1, none⟩ (.int .i64 ((n' : Int) + 1))) mb (mem T') ∧ Fw (fun k => k = wb ∨ k = cb ∨ k = mb) w (wr.setCell ⟨wb, 1, none⟩ (.int .i64 ((n' : Int) + 1))) from ⟨hst.1, hMr.out.fw hst.2 hmw, hFr.out.new hst.2 (fun j e => .inl (.inl e))⟩)
       have HC := Lib.hid (IH.out y (by have := HBG.out.2; omega) deep ar lb (lo + k * 16) mb (n' + 1) T' (wr.setCell ⟨wb, 1, none⟩ (.int .i64 ((n' : Int) + 1))) HCK.out.1 hy hlbN (by have := HBG.out.1; omega) HS.out.1 HS.out.2.1 HN.out.1 HN.out.2 (by omega))
       have HGE := Lib.hid (St.go_ge x fn cf HCF.out y T' (n' + 1) (by omega))
       have HE := Lib.hid (show R = (y.go x fn cf T' (n' + 1)).bind (r.go x fn cf) from by rw [hE.out, Sts.go, if_pos hlim])
       generalize y.go x fn cf T' (n' + 1) = ry at HC HGE HE
       clear hy hr' hr hck hE hWr hMr hFr hst hmw
       go_wp2_with fail
       refine (smust_yes 13 _).mono ?_
       rintro z w2 ⟨rfl, rfl⟩
       go_wp2_with fail
       refine HC.out.mono ?_
       intro z w3 h3
       rcases h3 with ⟨hr3, hW3, hM3, hF3⟩ | ⟨hr3, hF3⟩
       rotate_left
       · subst hr3
         have HEnd := Lib.hid (show GoEnd R N wb cb mb pb x s w0 w (Pn _) w3 from .no HE.out (HS.out.2.2.trans hF3))
         clear hF3
         unfold Pn at HEnd ⊢
         go_wp2_with fail
         exact ⟨rfl, HEnd.out⟩
       · subst hr3
         rename_i T3 n3
         have hb3 := HGE.out _ _ rfl
         have HW3 := Lib.hid hW3
         have HM3 := Lib.hid hM3
         have HF3 := Lib.hid (HS.out.2.2.trans hF3)
         have HE3 := Lib.hid (show R = r.go x fn cf T3 n3 from HE.out)
         clear hW3 hM3 hF3 c1 f1
         go_wp2_with fail
         go_roundw
         case rel => exact ⟨k + 1, r, T3, n3, by go_num, by omega, by omega, by omega, hb3.2, Lib.hid (by rw [show lo + (k + 1) * 16 = lo + k * 16 + 16 by omega]; exact HRr.out), Lib.hid HCK.out.2, HE3, HW3, HM3, HF3⟩
         case measure => simp [intOf]; omega
/- The walker goes through a statement: what is set, what is put. -/
open Go.RowKit Go.ChangeMaps

theorem alloc3 (w : World) (o0 o1 o2 : Obj) : ∃ W : World, (((w.alloc o0).alloc o1).alloc o2) = W ∧ W.heap[w.heap.size]? = some o0 ∧ W.heap[w.heap.size + 1]? = some o1 ∧ W.heap[w.heap.size + 1 + 1]? = some o2 ∧ Below w.heap.size w W ∧ W.heap.size = w.heap.size + 1 + 1 + 1 := by
 have kp : ∀ (A : World) (o o' : Obj) (k : Nat), A.heap[k]? = some o → (A.alloc o').heap[k]? = some o := fun A o o' k h => (Below.heap_alloc _ _ _ (lt_blk h)).trans h
 have nw : ∀ (A : World) (o : Obj) (k : Nat), A.heap.size = k → (A.alloc o).heap[k]? = some o := fun A o k h => by subst h; exact heap_alloc_new A o
 refine ⟨_, rfl, ?_, ?_, ?_, ((((Below.refl _ _).alloc (Nat.le_refl _) _).alloc (by simp) _).alloc (by simp; omega) _), by simp⟩
 · exact kp _ _ _ _ (kp _ _ _ _ (nw _ _ _ rfl))
 · exact kp _ _ _ _ (nw _ _ _ (by simp))
 · exact nw _ _ _ (by simp)
theorem chkS_parts {x : Prg} {fn : Fnc} {f : List UInt8 → Nat} {fi deep : Nat} {ar : List (List UInt8)} {y : St} (h : y.chk x fn f fi deep ar = 0) : headS x fn f fi ar y = 0 ∧ (y.kind = 2 → y.a.chk x fn deep = 0) ∧ ((y.kind = 1 ∨ y.kind = 2 ∨ y.kind = 3 ∨ y.kind = 4) → y.e.chk x fn deep = 0) ∧ y.args.chk x fn deep = 0 ∧ y.body.chk x fn f fi (deep + 1) (arOf ar y.kind y.name) = 0 ∧ y.els.chk x fn f fi (deep + 1) (arOf ar y.kind y.name) = 0 := by
 have sq : ∀ {a b : Nat}, seq a b = 0 → a = 0 ∧ b = 0 := fun {a b} h => by
   by_cases h0 : a = 0
   · rw [seq_ok h0] at h; exact ⟨h0, h⟩
   · rw [seq_no h0] at h; exact absurd h h0
 rw [St.chk_eq] at h
 obtain ⟨_, h⟩ := sq h
 obtain ⟨_, h⟩ := sq h
 obtain ⟨h1, h⟩ := sq h
 unfold partsR restR at h
 obtain ⟨h2, h⟩ := sq h
 obtain ⟨h3, h⟩ := sq h
 obtain ⟨h4, h⟩ := sq h
 obtain ⟨h5, h6⟩ := sq h
 exact ⟨h1, fun e => by rw [if_pos e] at h2; exact h2, fun e => by rw [if_pos e] at h3; exact h3, h4, h5, h6⟩

end Go.Proofs.YtihmibggonffdaaGreat
