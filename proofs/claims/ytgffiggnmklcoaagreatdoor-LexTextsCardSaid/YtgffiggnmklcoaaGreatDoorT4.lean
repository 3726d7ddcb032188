/- All of a text's tokens, the document's. -/
import Derived.Test.YtgffiggnmklcoaaGreatDoorT3
import Derived.Test.YtgffiggnmklcoaaGreatDoorH2
namespace Go.Proofs.YtgffiggnmklcoaaGreatDoor
open Go.RowKit

/-- places in a row of the call's own -/
def IntRow (B : Nat) (w : World) (ns : List Nat) (v : Value) : Prop := w.ownsRow B 3 1 v ns.length (ns.map fun a => Value.int .i64 (a : Nat))
theorem info_int : (Tryz.prog.info? 3).map (fun i => (i.zero, i.size, i.bytes)) = some (some (.int .i64 0), 1, 8) := by kernel_rfl
theorem IntRow.later {B : Nat} {w w' : World} {ns : List Nat} {v : Value} (h : IntRow B w ns v) (hB : Below w.heap.size w w') : IntRow B w' ns v := by
  obtain ⟨h2, h3⟩ := h
  refine ⟨h2, ?_⟩
  rcases h3 with h3 | ⟨g, cap, cur, q1, q2, q3, q4⟩
  · exact .inl h3
  · exact .inr ⟨g, cap, cur, q1, q2, (hB.block g (lt_of_block q3)).trans q3, q4⟩
theorem own_int {w : World} {B n : Nat} {v : Value} {xs : List Value} (h : w.ownsRow B 3 1 v n xs) : ∀ k, v.ownBlock = some k → B ≤ k ∧ ∃ cur, w.heap[k]? = some (.cells cur 3 (0, 0)) := by
  intro k hk
  rcases h.2 with ⟨rfl, _⟩ | ⟨g, cap, cur, rfl, hg, hh, _⟩
  · cases hk
  · have : g = k := by simpa [Value.ownBlock] using hk
    subst this
    exact ⟨hg, cur, hh⟩
/-- a row stays where the other one grows -/
theorem int_grown {B : Nat} {w w1 : World} {v u : Value} {n m : Nat} {xs ys : List Value} (h : w.ownsRow B 3 1 v m ys) (hu : w.ownsRow B 52 5 u n xs) (hg : w.grownBy w1 u.ownBlock) : w1.ownsRow B 3 1 v m ys := by
  obtain ⟨h2, h3⟩ := h
  refine ⟨h2, ?_⟩
  rcases h3 with h3 | ⟨g, cap, cur, q1, q2, q3, q4⟩
  · exact .inl h3
  · refine .inr ⟨g, cap, cur, q1, q2, (hg.block g (lt_of_block q3) (fun e => ?_)).trans q3, q4⟩
    obtain ⟨_, cur', h4⟩ := own_row hu g e.symm
    rw [q3] at h4
    have h5 : (3 : Nat) = 52 := by injection h4 with h4; injection h4
    exact absurd h5 (by decide)
theorem tok_grown {B : Nat} {w w1 : World} {v u : Value} {n m : Nat} {xs ys : List Value} (h : w.ownsRow B 52 5 v m ys) (hu : w.ownsRow B 3 1 u n xs) (hg : w.grownBy w1 u.ownBlock) : w1.ownsRow B 52 5 v m ys := by
  obtain ⟨h2, h3⟩ := h
  refine ⟨h2, ?_⟩
  rcases h3 with h3 | ⟨g, cap, cur, q1, q2, q3, q4⟩
  · exact .inl h3
  · refine .inr ⟨g, cap, cur, q1, q2, (hg.block g (lt_of_block q3) (fun e => ?_)).trans q3, q4⟩
    obtain ⟨_, cur', h4⟩ := own_int hu g e.symm
    rw [q3] at h4
    have h5 : (52 : Nat) = 3 := by injection h4 with h4; injection h4
    exact absurd h5 (by decide)
theorem IntRow.base {B B' : Nat} {w : World} {ns : List Nat} {v : Value} (h : IntRow B w ns v) (hB : B' ≤ B) : IntRow B' w ns v := by
  obtain ⟨h2, h3⟩ := h
  refine ⟨h2, ?_⟩
  rcases h3 with h3 | ⟨g, cap, cur, q1, q2, q3, q4⟩
  · exact .inl h3
  · exact .inr ⟨g, cap, cur, q1, Nat.le_trans hB q2, q3, q4⟩
/-- what the document's All hands back -/
def RAllIs (l : List UInt8) (B : Nat) (e : Ending) (w' : World) : Prop :=
  ∃ v u, e = .returned (.tuple #[v, u, .agg #[.int .i64 (allF l).1, .int .i64 (allF l).2.1, .int .i64 (allF l).2.2]]) ∧ TokRow B w' ((lexAll l).1.map (·.2)) v ∧ IntRow B w' ((lexAll l).1.map (·.1)) u
/-- where the document's All stands -/
structure RSt (l : List UInt8) (a f L la p L0 C0 : Nat) (ds : List (Nat × Tk)) : Prop where
  st : PlainSt l a f L la ds
  go : (h : a < l.length) → isBlank l[a] = false ∧ l[a].toNat ≠ 35
  pl : p ≤ a
  lc : lc (l.take p) = (L0, C0)

set_option maxRecDepth 100000 in
set_option maxHeartbeats 6400000 in
theorem rall_any (s : ByteArray) (w : World) (hs : s.size ≤ 65536) :
    Calls Tryz.prog 12 #[.string s] w fun e w' => RAllIs s.data.toList w.heap.size e w' ∧ Below w.heap.size w w' := by
  obtain ⟨i0, hi, hz0, hz1, hz2⟩ := info_parts info_tok
  obtain ⟨j0, hj, hj0, hj1, hj2⟩ := info_parts info_int
  obtain ⟨l, hl⟩ : ∃ l, s.data.toList = l := ⟨_, rfl⟩
  have hsl : s.size = l.length := by rw [← hl]; exact size_len s
  have HL := Lib.hid hl
  have HSk := Lib.hid (fun (a f L la : Nat) (ds : List (Nat × Tk)) w h => rskip_any s a f L la ds w (by omega) h)
  rw [hl] at HSk ⊢
  have HIdx : Hid (∀ k (h : k < s.size), ∃ h' : k < l.length, l[k]'h' = s[k]'h) := Lib.hid (fun k h => ⟨by omega, by subst hl; rfl⟩)
  have hlong : ¬ 65536 < s.size := by omega
  have HSL := Lib.hid hsl
  clear hl hsl
  go_enter Tryz.func12, Tryz.ntmps12
  go_wp2_with fail
  obtain ⟨wz, hwz⟩ : ∃ wz, w.alloc (.cells #[.int .i64 0, .int .i64 0, .int .i64 0] 26) = wz := ⟨_, rfl⟩
  have HBz := Lib.hid (show Below w.heap.size w wz by rw [← hwz]; exact (Below.refl _ _).alloc (Nat.le_refl _) _)
  have HFz := Lib.hid (show wz.heap[w.heap.size]? = some (.cells #[.int .i64 0, .int .i64 0, .int .i64 0] 26 (0, 0)) by rw [← hwz]; exact heap_alloc_new w _)
  have HZZ := Lib.hid (show wz.heap.size = w.heap.size + 1 by rw [← hwz]; simp)
  have HS0 := Lib.hid (HSk.out 0 l.length 1 0 [] wz (PlainSt.start l))
  rw [hwz]
  clear hwz
  refine HS0.out.mono ?_
  rintro e w' ⟨⟨a0, f0, L0, la0, rfl, _, hP0, hG0⟩, rfl⟩
  have HR0 : Hid (RSt l a0 f0 L0 la0 0 1 1 []) := Lib.hid ⟨hP0, hG0, Nat.zero_le _, rfl⟩
  have ha0 : a0 ≤ s.size := by rw [HSL.out]; exact hP0.le
  clear hP0 hG0 HS0
  go_wp2_with fail
  go_loopw [5, 6, 7, 8, 9, 10] (fun v u line col was i wr => ∃ (a f L la p L0 C0 : Nat) (ds : List (Nat × Tk)) (v0 u0 : Value), v0 = v ∧ u0 = u ∧ line = .int .i64 L0 ∧ col = .int .i64 C0 ∧ was = .int .i64 p ∧ i = .int .i64 a ∧ a ≤ s.size ∧ Hid (RSt l a f L la p L0 C0 ds) ∧ Hid (TokRow w'.heap.size wr (ds.map (·.2)) v0 ∧ IntRow w'.heap.size wr (ds.map (·.1)) u0) ∧ Hid (Below w'.heap.size w' wr)) (fun _ _ _ _ _ i _ => s.size - (intOf i).toNat)
  case atStart => exact ⟨a0, f0, L0, la0, 0, 1, 1, [], _, _, rfl, rfl, rfl, rfl, rfl, rfl, ha0, HR0, Lib.hid ⟨⟨rfl, .inl ⟨rfl, rfl⟩⟩, ⟨rfl, .inl ⟨rfl, rfl⟩⟩⟩, Lib.hid (Below.refl _ _)⟩
  case round =>
    obtain ⟨a, f, L, la, p, L1, C1, ds, v, u, rfl, rfl, rfl, rfl, rfl, rfl, has, hR, hRow, hB⟩ := hrel
    have hpa := hR.out.pl
    by_cases hlt : a < s.size
    · go_wp2_with fail
      go_loopw [7, 8, 11] (fun line col k wq => ∃ (k0 L C : Nat), line = .int .i64 L ∧ col = .int .i64 C ∧ k = .int .i64 k0 ∧ k0 ≤ a ∧ Hid (lc (l.take k0) = (L, C)) ∧ wq = wr) (fun _ _ k _ => a - (intOf k).toNat)
      case atStart => exact ⟨p, L1, C1, rfl, rfl, rfl, hpa, Lib.hid hR.out.lc, rfl⟩
      case round =>
        obtain ⟨k, L, C, rfl, rfl, rfl, hk, hLC, rfl⟩ := hrel
        have hb := lc_le (l.take k)
        rw [hLC.out, List.length_take] at hb
        obtain ⟨hb1, hb2, hb3, hb4⟩ := hb
        have hb5 : L ≤ 65537 := by omega
        have hb6 : C ≤ 65537 := by omega
        clear hb2 hb4
        by_cases hlk : k < a
        · have hks : k < s.size := by omega
          obtain ⟨hkl, hg⟩ := HIdx.out k hks
          have hst := lc_take_succ hkl
          rw [hLC.out, hg] at hst
          by_cases h10 : (s[k]'hks).toNat = 10
          · have HS := Lib.hid (hst.trans (by rw [lcF, if_pos h10]))
            have e10 : (((s[k]'hks).toNat : Int) == 10) = true := by rw [h10]; rfl
            clear hst hg h10 hkl
            go_wp2_with fail
            go_roundw
            case rel => exact ⟨k + 1, L + 1, 1, by go_num, rfl, by go_num, by omega, HS, trivial⟩
            case measure => simp [intOf]; omega
          · have HS := Lib.hid (hst.trans (by rw [lcF, if_neg h10]))
            have e10 : (((s[k]'hks).toNat : Int) == 10) = false := by simp; omega
            clear hst hg h10 hkl
            go_wp2_with fail
            go_roundw
            case rel => exact ⟨k + 1, L, C + 1, rfl, by go_num, by go_num, by omega, HS, trivial⟩
            case measure => simp [intOf]; omega
        · obtain rfl : k = a := by omega
          obtain ⟨hib, h35⟩ := hR.out.go (by rw [← HSL.out]; exact hlt)
          have hal : k < l.length := by rw [← HSL.out]; exact hlt
          have HO := Lib.hid (rone_any s k wr (by omega) hlt)
          rw [HL.out] at HO
          have HTok : Hid (oneE (l.drop k) = 0 → ∃ f', PlainSt l (k + oneN (l.drop k)) f' _ _ (ds ++ [(k, tokAt l k)])) := Lib.hid (fun h => hR.out.st.token hal hib h35 h)
          have HWr : Hid (oneE (l.drop k) ≠ 0 → lexAll l = (ds, some (k, oneE (l.drop k)))) := Lib.hid (fun h => hR.out.st.wrong hal hib h35 h)
          have HTa : Hid (tokAt l k = ⟨oneK (l.drop k), oneT (l.drop k), oneX (l.drop k), L, C⟩) := Lib.hid (by rw [tokAt, hLC.out])
          have hdl := hR.out.st.len
          have hop := oneN_pos (r := l.drop k) (by intro e; have := congrArg List.length e; rw [List.length_drop] at this; simp at this; omega)
          have HSt := Lib.hid hLC.out
          clear hib h35 hR hLC
          go_wp2_with fail
          refine HO.out.mono ?_
          rintro e w2 ⟨⟨kd, tx, x, n, rfl, hOne⟩, hB2⟩
          have hrow2 := And.intro (hRow.out.1.later hB2) (hRow.out.2.later hB2)
          have HB2 := Lib.hid (hB.out.trans (hB2.mono hB.out.size))
          by_cases he : oneE (l.drop k) = 0
          · have e0 : ((oneE (l.drop k) : Int) != 0) = false := by rw [he]; rfl
            obtain ⟨o1, o2, o3, o4⟩ := hOne he
            subst o1; subst o2; subst o3; subst o4
            obtain ⟨f', hP'⟩ := HTok.out he
            have HP' := Lib.hid hP'
            have hnp := hop he
            generalize oneE (l.drop k) = er at e0
            have hown := hrow2.1
            unfold TokRow at hown
            have hownI := hrow2.2
            unfold IntRow at hownI
            obtain ⟨kk, hkk⟩ : ∃ kk, oneK (l.drop k) = kk := ⟨_, rfl⟩
            obtain ⟨tt, htt⟩ : ∃ tt, oneT (l.drop k) = tt := ⟨_, rfl⟩
            obtain ⟨xx, hxx⟩ : ∃ xx, oneX (l.drop k) = xx := ⟨_, rfl⟩
            obtain ⟨nn, hnn⟩ : ∃ nn, k + oneN (l.drop k) = nn := ⟨_, rfl⟩
            have hta := HTa.out
            rw [hkk, htt, hxx] at hta
            rw [hkk, htt, hxx, hnn]
            rw [hnn, hta] at HP'
            have hkn : k < nn := by omega
            have hdz : ds.length ≤ 65536 := by omega
            have HDl := Lib.hid (show (ds.map (·.2)).length = ds.length ∧ (ds.map (·.1)).length = ds.length from ⟨List.length_map _, List.length_map _⟩)
            clear HTok HWr HTa hP' hOne he hop hkk htt hxx hnn hta hnp
            go_wp2_with (at_builtin; refine wpList_append_own _ rfl _ _ 23 rfl w'.heap.size 52 i0 (.agg #[.int .i64 0, .string ⟨#[]⟩, .int .u64 0, .int .i64 0, .int .i64 0]) 5 48 Tryz.underlying23 hi hz0 hz1 hz2 rfl (by decide) _ _ _ rfl ((hown.alloc _).alloc _) ⟨w2.heap.size + 1, 0, none⟩ 1 1 (tokC ⟨kk, tt, xx, L, C⟩) rfl rfl ?c1 ?c2 ?c3 ?c4 ?c5 ?_)
            case c1 => intro j u hj; match j, hj with
              | 0, hj => simp [tokC] at hj; subst hj; simp [go_sem, Addr.add]
              | 1, hj => simp [tokC] at hj; subst hj; simp [go_sem, Addr.add]
              | 2, hj => simp [tokC] at hj; subst hj; simp [go_sem, Addr.add]
              | 3, hj => simp [tokC] at hj; subst hj; simp [go_sem, Addr.add]
              | 4, hj => simp [tokC] at hj; subst hj; simp [go_sem, Addr.add]
            case c2 => intro u hu; simp [tokC] at hu; rcases hu with rfl | rfl | rfl | rfl | rfl <;> rfl
            case c3 => have := HDl.out.1; unfold maxLen; omega
            case c4 => have := HDl.out.1; omega
            case c5 => have := HB2.out.size; simp; omega
            intro v' w3 hown' hgrow _
            have hown3 : w3.ownsRow w'.heap.size 3 1 u (ds.map (·.1)).length ((ds.map (·.1)).map fun a => Value.int .i64 (a : Nat)) := int_grown ((hownI.alloc _).alloc _) ((hown.alloc _).alloc _) hgrow
            have HB3 := Lib.hid ((((HB2.out.alloc HB2.out.size (.cells #[.int .i64 kk, .string (str tt), .int .u64 xx, .int .i64 L, .int .i64 C] 52)).alloc (by simp; exact Nat.le_succ_of_le HB2.out.size) (.cells #[.int .i64 kk, .string (str tt), .int .u64 xx, .int .i64 L, .int .i64 C] 52))).grown hgrow (by simp; have := HB2.out.size; omega) (fun q hq => (own_row hown q hq).1))
            have HT3 : Hid (TokRow w'.heap.size w3 ((ds ++ [(k, (⟨kk, tt, xx, L, C⟩ : Tk))]).map (·.2)) v') := Lib.hid (by
              rw [List.map_append, List.map_cons, List.map_nil]
              unfold TokRow
              rw [List.length_append, toksC_snoc]; simpa using hown')
            clear hown hownI hown' hgrow hrow2
            go_wp2_with (at_builtin; refine wpList_append_own _ rfl _ _ 29 rfl w'.heap.size 3 j0 (.int .i64 0) 1 8 Tryz.underlying29 hj hj0 hj1 hj2 rfl (by decide) _ _ _ rfl (hown3.alloc _) ⟨w3.heap.size, 0, none⟩ 1 1 [.int .i64 k] rfl rfl ?e1 ?e2 ?e3 ?e4 ?e5 ?_)
            case e2 => rfl
            case e3 => have := HDl.out.2; unfold maxLen; omega
            case e4 => have := HDl.out.2; omega
            case e5 => have := HB3.out.size; simp; omega
            intro u' w4 hown' hgrow _
            have HT4 : Hid (TokRow w'.heap.size w4 ((ds ++ [(k, (⟨kk, tt, xx, L, C⟩ : Tk))]).map (·.2)) v') := Lib.hid (by
              have h3 := HT3.out
              unfold TokRow at h3 ⊢
              exact tok_grown (h3.alloc _) (hown3.alloc _) hgrow)
            have HB4 := Lib.hid ((HB3.out.alloc HB3.out.size (.cells #[.int .i64 k] 3)).grown hgrow (by simp; have := HB3.out.size; omega) (fun q hq => (own_int hown3 q hq).1))
            have HI4 : Hid (IntRow w'.heap.size w4 ((ds ++ [(k, (⟨kk, tt, xx, L, C⟩ : Tk))]).map (·.1)) u') := Lib.hid (by
              rw [List.map_append, List.map_cons, List.map_nil]
              unfold IntRow
              rw [List.length_append, List.map_append]; simpa using hown')
            have HSk4 := Lib.hid (HSk.out _ _ _ _ _ w4 HP'.out)
            clear hown3 hown' hgrow HT3
            go_wp2_with fail
            refine HSk4.out.mono ?_
            rintro e w5 ⟨⟨a2, f2, L2, la2, rfl, han, hP2, hG2⟩, rfl⟩
            have HR2 : Hid (RSt l a2 f2 L2 la2 k L C (ds ++ [(k, (⟨kk, tt, xx, L, C⟩ : Tk))])) := Lib.hid ⟨hP2, hG2, by omega, HSt.out⟩
            have ha2 : a2 ≤ s.size := by rw [HSL.out]; exact hP2.le
            clear hP2 hG2 HSk4
            go_wp2_with fail
            go_roundw
            case rel => exact ⟨a2, f2, L2, la2, k, L, C, _, v', u', rfl, rfl, rfl, rfl, rfl, rfl, ha2, HR2, Lib.hid ⟨HT4.out, HI4.out⟩, HB4⟩
            case measure => simp [intOf]; omega
          · have hx := HWr.out he
            have e0 : ((oneE (l.drop k) : Int) != 0) = true := by simp; exact he
            have HA := Lib.hid (And.intro hx (all_some (l := l) (by rw [← HSL.out]; exact hlong) (by rw [hx])).2)
            rw [HSt.out] at HA
            have hF := (HB2.out.block w.heap.size (by have := HZZ.out; omega)).trans HFz.out
            have d0 : w2.cell? ⟨w.heap.size, 0, none⟩ = some (.int .i64 0) := by simp [World.cell?, hF]
            have d1 : w2.cell? ⟨w.heap.size, 1, none⟩ = some (.int .i64 0) := by simp [World.cell?, hF]
            have d2 : w2.cell? ⟨w.heap.size, 2, none⟩ = some (.int .i64 0) := by simp [World.cell?, hF]
            have z0 : w2.frozen? ⟨w.heap.size, 0, none⟩ = false := by simp [World.frozen?, hF]
            have z1 : w2.frozen? ⟨w.heap.size, 1, none⟩ = false := by simp [World.frozen?, hF]
            have z2 : w2.frozen? ⟨w.heap.size, 2, none⟩ = false := by simp [World.frozen?, hF]
            have hzw : w.heap.size < w2.heap.size := lt_of_block hF
            have HRow2 := Lib.hid hrow2
            generalize oneE (l.drop k) = er at e0 HA
            clear HTok HWr HTa hOne he hop hF hx hrow2
            go_wp2_with fail
            have hal : ∀ (W : World) (i : Nat) (o : Obj), W.heap.size = w2.heap.size → (W.alloc o).cell? ⟨w.heap.size, i, none⟩ = W.cell? ⟨w.heap.size, i, none⟩ := fun W i o h => World.cell?_alloc_lt W _ ⟨w.heap.size, i, none⟩ (by rw [h]; exact hzw)
            have hn1 : v.ownBlock ≠ some w.heap.size := fun e => by have := (own_row HRow2.out.1 _ e).1; have := HZZ.out; omega
            have hn2 : u.ownBlock ≠ some w.heap.size := fun e => by have := (own_int HRow2.out.2 _ e).1; have := HZZ.out; omega
            have HR1 := HRow2.out.1
            have HR2 := HRow2.out.2
            unfold TokRow at HR1
            unfold IntRow at HR2
            refine bodyPost_ret (v := .tuple #[v, u, .agg #[.int .i64 er, .int .i64 L, .int .i64 C]]) (by simp [results, Tryz.results12, go_sem, hal, d0, d1, d2]) rfl ⟨⟨v, u, by rw [HA.out.2], ?_, ?_⟩, ?_⟩
            · rw [HA.out.1]
              exact TokRow.base (B := w'.heap.size) ((ownsRow_setCell_other (ownsRow_setCell_other (ownsRow_setCell_other HR1 hn1 _) hn1 _) hn1 _).alloc _) (by have := HZZ.out; omega)
            · rw [HA.out.1]
              exact IntRow.base (B := w'.heap.size) ((ownsRow_setCell_other (ownsRow_setCell_other (ownsRow_setCell_other HR2 hn2 _) hn2 _) hn2 _).alloc _) (by have := HZZ.out; omega)
            · exact Below.alloc (a := w) (B := w.heap.size) ((((HBz.out.trans (HB2.out.mono (by have := HZZ.out; omega))).setCell (Nat.le_refl _) _).setCell (Nat.le_refl _) _).setCell (Nat.le_refl _) _) (by simp [World.setCell]; omega) _
    · obtain rfl : a = s.size := by omega
      have hx := hR.out.st.over (by rw [HSL.out]; exact Nat.le_refl _)
      have HA := Lib.hid (And.intro hx (all_none (l := l) (by rw [← HSL.out]; exact hlong) (by rw [hx])).2)
      have hF := (hB.out.block w.heap.size (by have := HZZ.out; omega)).trans HFz.out
      have d0 : wr.cell? ⟨w.heap.size, 0, none⟩ = some (.int .i64 0) := by simp [World.cell?, hF]
      have d1 : wr.cell? ⟨w.heap.size, 1, none⟩ = some (.int .i64 0) := by simp [World.cell?, hF]
      have d2 : wr.cell? ⟨w.heap.size, 2, none⟩ = some (.int .i64 0) := by simp [World.cell?, hF]
      have z0 : wr.frozen? ⟨w.heap.size, 0, none⟩ = false := by simp [World.frozen?, hF]
      have z1 : wr.frozen? ⟨w.heap.size, 1, none⟩ = false := by simp [World.frozen?, hF]
      have z2 : wr.frozen? ⟨w.heap.size, 2, none⟩ = false := by simp [World.frozen?, hF]
      have HFw := Lib.hid hF
      clear hF hx
      go_wp2_with fail
      have hn1 : v.ownBlock ≠ some w.heap.size := fun e => by have := (own_row hRow.out.1 _ e).1; have := HZZ.out; omega
      have hn2 : u.ownBlock ≠ some w.heap.size := fun e => by have := (own_int hRow.out.2 _ e).1; have := HZZ.out; omega
      refine bodyPost_ret (v := .tuple #[v, u, .agg #[.int .i64 0, .int .i64 0, .int .i64 0]]) (by simp [results, Tryz.results12, go_sem, d0, d1, d2]) rfl ⟨⟨v, u, by rw [HA.out.2]; rfl, ?_, ?_⟩, ?_⟩
      · rw [HA.out.1]
        exact TokRow.base (B := w'.heap.size) (ownsRow_setCell_other (ownsRow_setCell_other (ownsRow_setCell_other hRow.out.1 hn1 _) hn1 _) hn1 _) (by have := HZZ.out; omega)
      · rw [HA.out.1]
        exact IntRow.base (B := w'.heap.size) (ownsRow_setCell_other (ownsRow_setCell_other (ownsRow_setCell_other hRow.out.2 hn2 _) hn2 _) hn2 _) (by have := HZZ.out; omega)
      · exact (((HBz.out.trans (hB.out.mono (by have := HZZ.out; omega))).setCell (Nat.le_refl _) _).setCell (Nat.le_refl _) _).setCell (Nat.le_refl _) _
end Go.Proofs.YtgffiggnmklcoaaGreatDoor
