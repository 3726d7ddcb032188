/- K0, D9 as one. -/
import Derived.Test.YtihmibggonffdaaGreatD2
import Derived.Test.YtihmibggonffdaaGreatD8
import Derived.Test.YtihmibggonffdaaGreatJ2
/- append onto what was clipped; placeIn's value. -/
namespace Go.Proofs.YtihmibggonffdaaGreat
open Go.RowKit

def strCells (l : List (List UInt8)) : List Value := l.map fun s => .string (str s)
theorem str_list {w : World} : ∀ (l : List (List UInt8)) (b o : Nat), Row (StrAt w) 1 l b o → ∀ j u, (strCells l)[j]? = some u → w.cell? ⟨b, o + j, none⟩ = some u
 | [], _, _, _, j, u, h => by simp [strCells] at h
 | x :: l, b, o, h, 0, u, hu => by simp [strCells] at hu; subst hu; exact h.1
 | x :: l, b, o, h, j + 1, u, hu => by
   have := str_list l b (o + 1) h.2 j u (by simpa [strCells] using hu)
   rw [show o + (j + 1) = o + 1 + j by omega]; exact this
theorem str_of {w : World} : ∀ (l : List (List UInt8)) (b o : Nat), (∀ j u, (strCells l)[j]? = some u → w.cell? ⟨b, o + j, none⟩ = some u) → Row (StrAt w) 1 l b o
 | [], _, _, _ => trivial
 | x :: l, b, o, h => ⟨h 0 _ (by simp [strCells]), str_of l b (o + 1) fun j u hu => by
   have := h (j + 1) u (by simpa [strCells] using hu)
   rw [show o + (j + 1) = o + 1 + j by omega] at this; exact this⟩
theorem infoStr : (Tryz.prog.info? 9).map (fun i => (i.zero, i.size, i.bytes)) = some (some (.string ⟨#[]⟩), 1, 16) := by kernel_rfl
theorem clip_append (l : List (List UInt8)) (nm : List UInt8) (p : Option Addr) (g N : Nat) (w : World) (h : RowIn N (StrAt w) 1 l p) (hg : w.cell? ⟨g, 0, none⟩ = some (.string (str nm))) (hl : l.length ≤ 1000) (ty : TypeId) :
   ∃ w2 c2, (Builtin.append_ #[42, 42] ty #[.slice p l.length l.length, .slice (some ⟨g, 0, none⟩) 1 1]).run Tryz.prog w = .ok (.slice (some ⟨w.heap.size, 0, none⟩) (l.length + 1) c2) w2 ∧ RowIn w2.heap.size (StrAt w2) 1 (l ++ [nm]) (some ⟨w.heap.size, 0, none⟩) ∧ l.length + 1 ≤ c2 ∧ Below w.heap.size w w2 := by
 obtain ⟨i0, hi, hz0, hz1, hz2⟩ := info_parts infoStr
 have key : ∀ (Z : Array Value) (w2 : World), w2 = w.drew.alloc (.cells ((strCells l).toArray ++ #[.string (str nm)] ++ Z) 9) → RowIn w2.heap.size (StrAt w2) 1 (l ++ [nm]) (some ⟨w.heap.size, 0, none⟩) ∧ Below w.heap.size w w2 := by
   rintro Z w2 rfl
   refine ⟨⟨by simp; omega, .inr ⟨w.heap.size, 0, rfl, by simp, str_of _ _ _ fun j u hu => ?_⟩⟩, (Below.refl _ w).drew.alloc (Nat.le_refl _) _⟩
   rw [Nat.zero_add]
   refine cell_blk (heap_alloc_new w.drew _) ?_
   have hj : j < (strCells (l ++ [nm])).length := (List.getElem?_eq_some_iff.1 hu).1
   have e : (strCells l).toArray ++ #[Value.string (str nm)] = (strCells (l ++ [nm])).toArray := by simp [strCells]
   rw [e, Array.getElem?_append_left (by simpa using hj), List.getElem?_toArray]
   exact hu
 cases p with
 | none =>
   have h0 : l.length = 0 := by
     rcases h.2 with h0 | ⟨b, o, hp, _⟩
     · exact h0
     · cases hp
   obtain rfl : l = [] := List.eq_nil_of_length_eq_zero h0
   have hr := run_append_nil (P := Tryz.prog) (w := w) 42 ty 9 i0 _ Tryz.underlying42 hi hz0 ⟨g, 0, none⟩ 1 1 [.string (str nm)] (by rw [hz1]; rfl) (fun j v hv => by
     match j, hv with
     | 0, hv => simp at hv; subst hv; simpa [Addr.add] using hg) (by omega) (by omega) (by rw [hz2]; omega)
   have hge := grownCap_ge w 1 0 9
   obtain ⟨k1, k2⟩ := key _ _ (by simp [strCells]; rfl)
   exact ⟨_, _, hr, k1, by simpa using hge, k2⟩
 | some b =>
   have holds : ∀ j v, (strCells l)[j]? = some v → w.cell? (b.add j) = some v := by
     intro j v hv
     rcases h.2 with h0 | ⟨bb, o, hp, _, ha⟩
     · obtain rfl : l = [] := List.eq_nil_of_length_eq_zero h0
       simp [strCells] at hv
     · cases hp
       rw [add_of]
       exact str_list l bb o ha j v hv
   have hr := run_append_grow (P := Tryz.prog) (w := w) 42 ty 9 i0 _ Tryz.underlying42 hi hz0 b l.length l.length (strCells l) (by rw [hz1]; simp [strCells]) holds ⟨g, 0, none⟩ 1 1 [.string (str nm)] (by rw [hz1]; rfl) (fun j v hv => by
     match j, hv with
     | 0, hv => simp at hv; subst hv; simpa [Addr.add] using hg) (by omega) (by omega) (by rw [hz2]; have := nextslicecap_le (need := l.length + 1) (old := l.length) (by omega); omega)
   have hge := grownCap_ge w (l.length + 1) l.length 9
   obtain ⟨k1, k2⟩ := key _ _ rfl
   exact ⟨_, _, hr, k1, hge, k2⟩
theorem clip_any (l : List (List UInt8)) (p : Option Addr) (c : Nat) (w : World) (hc : l.length ≤ c) (_hl : l.length ≤ 1000) : Calls Tryz.prog 135 #[.slice p l.length c] w fun z w' => z = .returned (.slice p l.length l.length) ∧ w = w' := by
 cases p with
 | none =>
   go_enter Tryz.func135, Tryz.ntmps135
   go_wp2_with fail
   go_ret
   exact ⟨rfl, rfl⟩
 | some a =>
   go_enter Tryz.func135, Tryz.ntmps135
   go_wp2_with fail
   go_ret
   exact ⟨rfl, rfl⟩
/- The document's: the words that loops have. -/
open Go.RowKit

theorem own_later {w w' : World} {base : Nat} {e : TypeId} {size n : Nat} {v : Value} {xs : List Value} (h : w.ownsRow base e size v n xs) (hB : Below w.heap.size w w') : w'.ownsRow base e size v n xs := by
 refine ⟨h.1, ?_⟩
 rcases h.2 with h0 | ⟨g, cap, cur, hv, hbg, hg, hr⟩
 · exact .inl h0
 · exact .inr ⟨g, cap, cur, hv, hbg, (hB.block g (h.lt g (by rw [hv]; rfl)).2).trans hg, hr⟩
theorem strc_len (l : List (List UInt8)) : (strCells l).length = l.length * 1 := by rw [strCells, List.length_map, Nat.mul_one]
theorem strc_one (l : List (List UInt8)) : ∀ u ∈ strCells l, u.oneCell' = true := by
 intro u h
 obtain ⟨x, _, rfl⟩ := List.mem_map.1 h
 rfl
theorem str_src {w : World} {N : Nat} {l : List (List UInt8)} {p : Option Addr} (h : RowIn N (StrAt w) 1 l p) : Src w 1 p l.length (strCells l) := by
 refine ⟨strc_len l, ?_⟩
 rcases h.2 with h0 | ⟨b, o, hp, _, ha⟩
 · exact .inl h0
 · exact .inr ⟨b, o, hp, str_list l b o ha⟩
theorem own_strs {w : World} {B : Nat} {v : Value} {ts : List (List UInt8)} (h : w.ownsRow B 9 1 v ts.length (strCells ts)) (hl : ts.length ≤ 140737488355328) : ∃ p c, v = .slice p ts.length c ∧ RowIn w.heap.size (StrAt w) 1 ts p := by
 rcases h.2 with ⟨rfl, h0⟩ | ⟨g, cap, cur, rfl, hg, hk, hnc, hm, hs, ht⟩
 · exact ⟨none, 0, by rw [h0], by omega, .inl h0⟩
 · refine ⟨_, cap, rfl, hl, .inr ⟨g, 0, rfl, lt_blk hk, str_of ts g 0 fun j u hu => ?_⟩⟩
   rw [← ht, List.getElem?_take] at hu
   split at hu
   · rw [Nat.zero_add]
     exact cell_blk hk (by rw [← Array.getElem?_toList]; exact hu)
   · cases hu
theorem strc_app (a b : List (List UInt8)) : strCells (a ++ b) = strCells a ++ strCells b := by simp [strCells]
mutual
theorem St.fors_le : ∀ (x : St) (deep : Nat), (x.fors deep).length ≤ x.big
 | .mk kd nm ns e a as' lo hi bd el, deep => by
   rw [St.fors, St.big]
   have h2 := Sts.fors_le bd (deep + 1)
   have h3 := Sts.fors_le el (deep + 1)
   simp only [List.length_append]
   have : (if kd = 5 then [nm] else []).length ≤ 1 := by split <;> simp
   omega
theorem Sts.fors_le : ∀ (l : Sts) (deep : Nat), (l.fors deep).length ≤ l.big
 | .nil, _ => by rw [Sts.fors]; exact Nat.zero_le _
 | .cons x r, deep => by
   rw [Sts.fors, Sts.big]
   have h1 := St.fors_le x deep
   have h2 := Sts.fors_le r deep
   split
   · simp
   · rw [List.length_append]; omega
end
def OwnS (w : World) (B : Nat) (v : Value) (ts : List (List UInt8)) : Prop := w.ownsRow B 9 1 v ts.length (strCells ts)
def RC (n : Nat) : Prop := ∀ (l : Sts), l.size < n → l.big ≤ 4000000 → ∀ (deep : Nat), deep ≤ 65 → ∀ (p : Option Addr) (c N : Nat) (w : World), l.In w N p → N ≤ w.heap.size →
   Calls Tryz.prog 64 #[.slice p l.len c, .int .i64 (deep : Int)] w fun z w' => (∃ q cq, z = .returned (.slice q (l.fors deep).length cq) ∧ RowIn w'.heap.size (StrAt w') 1 (l.fors deep) q) ∧ Below w.heap.size w w'
set_option maxRecDepth 100000 in
set_option maxHeartbeats 12800000 in
theorem rcounts_step (n : Nat) (ih : RC n) : RC (n + 1) := by
 intro l hls hbig deep hd p c N w hl hN
 by_cases hdp : 64 < deep
 · rw [Sts.fors_deep l deep hdp]
   have hi : (64 : Int) < (deep : Int) := by omega
   have HR := Lib.hid (show RowIn w.heap.size (StrAt w) 1 [] none from ⟨Nat.zero_le _, .inl rfl⟩)
   clear hl ih
   go_enter Tryz.func64, Tryz.ntmps64
   go_wp2_with fail
   go_ret
   exact ⟨⟨none, 0, rfl, HR.out⟩, Below.refl _ _⟩
 obtain ⟨i0, hi0, hz0, hz1, hz2⟩ := info_parts infoStr
 have IH := Lib.hid ih
 clear ih
 have hi : ¬ (64 : Int) < (deep : Int) := by omega
 obtain ⟨d1, hd1⟩ : ∃ d1, d1 = deep + 1 := ⟨_, rfl⟩
 have hwd : IntKind.i64.wrap ((deep : Int) + 1) = ((d1 : Nat) : Int) := by rw [hd1]; simp [IntKind.wrap, IntKind.bits, IntKind.signed]; omega
 obtain ⟨hm, hs⟩ := hl
 obtain ⟨b, o, hp, hb, ha⟩ : ∃ b o, (l.len = 0 ∨ p = some ⟨b, o, none⟩) ∧ (b < N ∨ l.len = 0) ∧ l.At w N b o := by
   rcases hs with h0 | ⟨b, o, hp, hb, ha⟩
   · exact ⟨0, 0, .inl h0, .inr h0, by cases l with | nil => trivial | cons => simp [Sts.len] at h0⟩
   · exact ⟨b, o, .inr hp, .inl hb, ha⟩
 have Hb := Lib.hid hb
 have HNN := Lib.hid hN
 obtain ⟨F, hF⟩ : ∃ F, F = l.fors deep := ⟨_, rfl⟩
 have hFl : F.length ≤ 4000000 := by rw [hF]; exact Nat.le_trans (l.fors_le deep) hbig
 have HL := Lib.hid (show l.size ≤ n ∧ l.big ≤ 4000000 ∧ deep ≤ 64 ∧ d1 = deep + 1 from ⟨by omega, hbig, by omega, hd1⟩)
 have HF := Lib.hid hF
 rw [← hF]
 clear hs hb hls hbig hd hd1 hF
 go_enter Tryz.func64, Tryz.ntmps64
 go_wp2_with fail
 go_loopw [5, 6] (fun out i wr => ∃ (k : Nat) (r : Sts) (ts : List (List UInt8)), i = .int .i64 k ∧ k + r.len = l.len ∧ ts.length ≤ F.length ∧ Hid (r.size ≤ l.size ∧ r.big ≤ l.big) ∧ Hid (r.At w N b (o + k * 16)) ∧ Hid (ts ++ r.fors deep = F) ∧ Hid (OwnS wr w.heap.size out ts) ∧ Hid (Below w.heap.size w wr)) (fun _ i _ => l.len - (intOf i).toNat)
 case atStart => exact ⟨0, l, [], rfl, by omega, by simp, Lib.hid ⟨Nat.le_refl _, Nat.le_refl _⟩, Lib.hid (by rw [Nat.zero_mul]; exact ha), Lib.hid (by rw [HF.out]; rfl), Lib.hid (World.ownsRow_nil _ _ _ _), Lib.hid (Below.refl _ _)⟩
 case round =>
   obtain ⟨k, r, ts, rfl, hk, htl, hrs, hr, hE, hO, hB⟩ := hrel
   cases r with
   | nil =>
     simp only [Sts.len] at hk
     have hge : ¬ k < l.len := by omega
     have hV : ts = F := by have := hE.out; rw [Sts.fors, List.append_nil] at this; exact this
     subst hV
     obtain ⟨q, cq, hv, hrow⟩ := own_strs hO.out (by omega)
     subst hv
     have HRow := Lib.hid hrow
     clear hrow hO
     go_wp2_with fail
     go_ret
     first | exact ⟨⟨q, cq, rfl, HRow.out⟩, hB.out⟩ | exact ⟨⟨q, ⟨cq, rfl⟩, HRow.out⟩, hB.out⟩
   | cons y r =>
     obtain ⟨hy, hr'⟩ := hr.out
     simp only [Sts.len] at hk
     have hrs2 := hrs.out
     simp only [Sts.size, Sts.big] at hrs2
     have hlt : k < l.len := by omega
     rcases hp with h0 | rfl
     · omega
     have hbN : b < N := by have := Hb.out; omega
     obtain ⟨wo, rfl⟩ : ∃ wo : World, wo = wr := ⟨_, rfl⟩
     obtain ⟨⟨pn, pe, pa, pg, pb, pl, cn, ce, ca, cg, cb, cl⟩, hcs, hok⟩ := hy.open
     have HCs := Lib.hid (fun (W : World) (hB : Below w.heap.size w W) => show W.cell? ⟨b, o + k * 16, none⟩ = some (.int .i64 y.kind) ∧ W.cell? ⟨b, o + k * 16 + 1, none⟩ = some (.string (str y.name)) ∧ W.cell? ⟨b, o + k * 16 + 14, none⟩ = some (.slice pb y.body.len cb) ∧ W.cell? ⟨b, o + k * 16 + 15, none⟩ = some (.slice pl y.els.len cl) from
       have hbw := Nat.lt_of_lt_of_le hbN HNN.out
       ⟨(hB.cell (p := ⟨b, _, none⟩) hbw).trans (hcs 0 _ rfl), (hB.cell (p := ⟨b, _, none⟩) hbw).trans (hcs 1 _ rfl), (hB.cell (p := ⟨b, _, none⟩) hbw).trans (hcs 14 _ rfl), (hB.cell (p := ⟨b, _, none⟩) hbw).trans (hcs 15 _ rfl)⟩)
     have hE2 := hE.out
     rw [Sts.fors_cons HL.out.2.2.1, ← HL.out.2.2.2] at hE2
     have HSz := Lib.hid (show y.body.size < n ∧ y.body.big ≤ 4000000 ∧ y.els.size < n ∧ y.els.big ≤ 4000000 ∧ r.size ≤ l.size ∧ r.big ≤ l.big by
       have h1 := HL.out
       have h2 : y.size = y.body.size + y.els.size + 1 := by obtain ⟨kd, nm, ns, e, a, as', lo, hi, bd, el⟩ := y; rw [St.size]; rfl
       have h3 := y.big_eq
       omega)
     have HBd := Lib.hid (fun (W : World) (hB : Below w.heap.size w W) => IH.out y.body HSz.out.1 HSz.out.2.1 d1 (by have := HL.out; omega) pb cb N W (hok.2.2.2.2.1.later (hB.mono HNN.out) (Nat.le_refl N)) (Nat.le_trans HNN.out hB.size))
     have HEl := Lib.hid (fun (W : World) (hB : Below w.heap.size w W) => IH.out y.els HSz.out.2.2.1 HSz.out.2.2.2.1 d1 (by have := HL.out; omega) pl cl N W (hok.2.2.2.2.2.1.later (hB.mono HNN.out) (Nat.le_refl N)) (Nat.le_trans HNN.out hB.size))
     obtain ⟨FB, hFB⟩ : ∃ FB, FB = y.body.fors d1 := ⟨_, rfl⟩
     obtain ⟨FE, hFE⟩ : ∃ FE, FE = y.els.fors d1 := ⟨_, rfl⟩
     rw [← hFB] at HBd
     rw [← hFE] at HEl
     rw [← hFB, ← hFE] at hE2
     have hl1 := congrArg List.length hE2
     simp only [List.length_append] at hl1
     have HE2 := Lib.hid hE2
     have HR := Lib.hid hr'
     have HFN := Lib.hid (show y.forN = if y.kind = 5 then [y.name] else [] from rfl)
     have HH := Lib.hid (And.intro hk hlt)
     clear hy hr hr' hcs hok hE hE2 hrs hrs2 hFB hFE
     obtain ⟨g0, g1, g2, g3⟩ := HCs.out _ hB.out
     go_upto_if 20 with fail
     go_cut [5] from 9 to 48 (fun out wx => Hid (OwnS wx w.heap.size out (ts ++ y.forN)) ∧ Hid (Below w.heap.size w wx))
     case first =>
       cases hk5 : y.kind == 5
       · have hne : y.kind ≠ 5 := by simpa using hk5
         have HO2 := Lib.hid (show OwnS wo w.heap.size u5 (ts ++ y.forN) by rw [HFN.out, if_neg hne, List.append_nil]; exact hO.out)
         clear hO
         go_wp2_with fail
         go_meet
         exact ⟨HO2, hB⟩
       · have he5 : y.kind = 5 := by simpa using hk5
         have HFN2 := Lib.hid (show y.forN = [y.name] by rw [HFN.out, if_pos he5])
         clear he5
         obtain ⟨W1, hW1, k1, hB1, hz1⟩ := one_alloc wo (.cells #[.string (str y.name)] 9)
         have HOa := Lib.hid (own_later hO.out hB1)
         have HBa := Lib.hid (hB.out.trans (hB1.mono hB.out.size))
         have HSr := Lib.hid (show Src W1 1 (some ⟨wo.heap.size, 0, none⟩) 1 [.string (str y.name)] from ⟨rfl, .inr ⟨_, _, rfl, fun j u hu => by
           rcases j with _ | j
           · cases hu; exact cell_blk k1 rfl
           · simp at hu⟩⟩)
         clear k1 hB1 hz1 hO
         go_wp2_with (at_builtin; refine wpList_append_src rfl _ _ 42 rfl w.heap.size 9 i0 _ 1 16 Tryz.underlying42 hi0 hz0 hz1 hz2 rfl (by decide) _ ts.length (strCells ts) rfl HOa.out _ _ _ [.string (str y.name)] rfl HSr.out (by intro u hu; simp at hu; subst hu; rfl) (by unfold maxLen; omega) (by omega) HBa.out.size ?_; intro v' w2 hown hgrow)
         have HX := Lib.hid (And.intro (show OwnS w2 w.heap.size v' (ts ++ y.forN) by rw [HFN2.out]; simpa [OwnS, strCells] using hown) (below_grown HBa.out hgrow HBa.out.size HOa.out))
         clear hown hgrow
         go_wp2_with fail
         go_meet
         exact ⟨Lib.hid HX.out.1, Lib.hid HX.out.2⟩
     case rest =>
     obtain ⟨hOc, hBc⟩ := hcut
     clear g0 g1 g2 g3 hO
     obtain ⟨ts2, hts2⟩ : ∃ ts2, ts2 = ts ++ y.forN := ⟨_, rfl⟩
     rw [← hts2] at hOc
     have hl2 : ts2.length + FB.length + FE.length ≤ F.length := by rw [hts2, List.length_append]; omega
     have HT2 := Lib.hid hts2
     obtain ⟨g0, g1, g2, g3⟩ := HCs.out _ hBc.out
     have HC := Lib.hid (HBd.out _ hBc.out)
     clear hts2
     go_wp2_with fail
     refine HC.out.mono ?_
     rintro z w3 ⟨⟨q3, cq3, rfl, hrow3⟩, hB3⟩
     have HOd := Lib.hid (own_later hOc.out hB3)
     have HBe := Lib.hid (hBc.out.trans (hB3.mono hBc.out.size))
     have HS3 := Lib.hid (str_src hrow3)
     clear hrow3 hB3 hOc g0 g1 g2 g3 HC
     go_wp2_with (at_builtin; refine wpList_append_src rfl _ _ 42 rfl w.heap.size 9 i0 _ 1 16 Tryz.underlying42 hi0 hz0 hz1 hz2 rfl (by decide) _ ts2.length (strCells ts2) rfl HOd.out _ _ _ (strCells FB) rfl HS3.out (strc_one FB) (by unfold maxLen; omega) (by omega) HBe.out.size ?_; intro v' w4 hown hgrow; have HBf := Lib.hid (below_grown HBe.out hgrow HBe.out.size HOd.out); obtain ⟨g0, g1, g2, g3⟩ := HCs.out _ HBf.out)
     obtain ⟨ts4, hts4⟩ : ∃ ts4, ts4 = ts2 ++ FB := ⟨_, rfl⟩
     have hl4 : ts4.length = ts2.length + FB.length := by rw [hts4, List.length_append]
     have HOf := Lib.hid (show OwnS w4 w.heap.size v' ts4 by rw [hts4]; unfold OwnS; rw [List.length_append, strc_app]; exact hown)
     have HT4 := Lib.hid hts4
     have HC5 := Lib.hid (HEl.out _ HBf.out)
     clear hown hgrow hts4 HOd HS3
     refine HC5.out.mono ?_
     rintro z w5 ⟨⟨q5, cq5, rfl, hrow5⟩, hB5⟩
     have HOg := Lib.hid (own_later HOf.out hB5)
     have HBg := Lib.hid (HBf.out.trans (hB5.mono HBf.out.size))
     have HS5 := Lib.hid (str_src hrow5)
     clear hrow5 hB5 HOf g0 g1 g2 g3 HC5
     go_wp2_with (at_builtin; refine wpList_append_src rfl _ _ 42 rfl w.heap.size 9 i0 _ 1 16 Tryz.underlying42 hi0 hz0 hz1 hz2 rfl (by decide) _ ts4.length (strCells ts4) rfl HOg.out _ _ _ (strCells FE) rfl HS5.out (strc_one FE) (by unfold maxLen; omega) (by omega) HBg.out.size ?_; intro v' w6 hown hgrow)
     obtain ⟨ts6, hts6⟩ : ∃ ts6, ts6 = ts4 ++ FE := ⟨_, rfl⟩
     have hl6 : ts6.length = ts4.length + FE.length := by rw [hts6, List.length_append]
     have HOh := Lib.hid (show OwnS w6 w.heap.size v' ts6 by rw [hts6]; unfold OwnS; rw [List.length_append, strc_app]; exact hown)
     have HBh := Lib.hid (below_grown HBg.out hgrow HBg.out.size HOg.out)
     have HT6 := Lib.hid hts6
     have hl7 : ts6.length ≤ F.length := by omega
     clear hown hgrow hts6 HOg HS5
     have hkk := HH.out.1
     go_wp2_with fail
     go_roundw
     case rel => exact ⟨k + 1, r, ts6, by go_num, by omega, hl7, Lib.hid HSz.out.2.2.2.2, Lib.hid (by rw [show o + (k + 1) * 16 = o + k * 16 + 16 by omega]; exact HR.out), Lib.hid (by rw [HT6.out, HT4.out, HT2.out, ← HE2.out]; simp only [List.append_assoc]), HOh, HBh⟩
     case measure => simp [intOf]; omega
theorem rcounts_to : ∀ n, RC n
 | 0 => fun _ h => absurd h (Nat.not_lt_zero _)
 | n + 1 => rcounts_step n (rcounts_to n)
end Go.Proofs.YtihmibggonffdaaGreat
