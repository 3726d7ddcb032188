/- The document's words of its regions. -/
import Derived.Test.YtajjpaabkdgjbaaC2
import Derived.Test.YtajjpaabkdgjbaaC3
import Derived.Deep.AppendLies
namespace Go.Proofs.Ytajjpaabkdgjbaa
open Go.RowKit

/-- rows of rows -/
def RRows (w : World) (xss : List (List Nat)) (v : Value) : Prop :=
  ∃ q d, v = .slice q xss.length d ∧ (xss.length = 0 ∨ ∃ g, q = some ⟨g, 0, none⟩ ∧ g < w.heap.size ∧ ∀ i xs, xss[i]? = some xs → ∃ u, w.cell? ⟨g, i, none⟩ = some u ∧ URow 0 w xs u)
theorem RRows.of {w : World} {go : Nat} {xss : List (List Nat)} {n : Nat} (hn : n = xss.length) (h : OutIs w go n n xss) (hgo : go < w.heap.size) : RRows w xss (.slice (some ⟨go, 0, none⟩) n n) := by
  subst hn
  refine ⟨_, _, rfl, .inr ⟨go, rfl, hgo, fun i xs hx => ?_⟩⟩
  have hi : i < xss.length := (List.getElem?_eq_some_iff.1 hx).1
  obtain ⟨u, hu, _, hr⟩ := h i hi
  exact ⟨u, hu, (hr hi xs hx).base (Nat.zero_le _)⟩
theorem RRows.later {w w' : World} {xss : List (List Nat)} {v : Value} (h : RRows w xss v) (hB : Below w.heap.size w w') : RRows w' xss v := by
  obtain ⟨q, d, hv, h1⟩ := h
  refine ⟨q, d, hv, ?_⟩
  rcases h1 with h1 | ⟨g, hq, hg, hc⟩
  · exact .inl h1
  · refine .inr ⟨g, hq, Nat.lt_of_lt_of_le hg hB.size, fun i xs hx => ?_⟩
    obtain ⟨u, hu, hr⟩ := hc i xs hx
    exact ⟨u, (hB.cell (p := ⟨g, i, none⟩) hg).trans hu, hr.later hB⟩
theorem URow.grown {B : Nat} {w w' : World} {xs : List Nat} {u : Value} {row : Option Nat} (h : URow B w xs u) (hg : w.grownBy w' row) (hne : ∀ k, u.ownBlock = some k → some k ≠ row) : URow B w' xs u := by
  obtain ⟨q, d, hv, h1, h2, h3⟩ := h
  refine ⟨q, d, hv, h1, h2, fun ad had => ?_⟩
  obtain ⟨g, hgg, hb, hlt, hc⟩ := h3 ad had
  subst hgg
  subst had
  have hk := hne g (by rw [hv]; rfl)
  exact ⟨g, rfl, hb, Nat.lt_of_lt_of_le hlt hg.size, fun i x hx => (World.cell?_of_block (hg.block g hlt hk)).trans (hc i x hx)⟩
theorem URow.blk {B : Nat} {w : World} {xs : List Nat} {u : Value} (h : URow B w xs u) {k : Nat} (hk : u.ownBlock = some k) : B ≤ k ∧ k < w.heap.size := by
  obtain ⟨q, d, hv, h1, h2, h3⟩ := h
  subst hv
  cases q with
  | none => cases hk
  | some ad =>
    obtain ⟨g, rfl, hb, hlt, _⟩ := h3 ad rfl
    simp [Value.ownBlock] at hk
    subst hk
    exact ⟨hb, hlt⟩

/-- a region's words, of bytes -/
def wordsB (bt : Nat → Nat) (r : Rg) : List Nat := (List.range r.size.toNat).map fun k => wordAt bt (r.addr.toNat + 8 * k)
theorem wordsB_eq {f bt : Nat → Nat} (hr : RelWB f bt) (hb : ∀ j, bt j < 256) (hf : ∀ j, f j < 18446744073709551616) {r : Rg} (hro : r.ok = true) : wordsB bt r = wordsR f r := by
  obtain ⟨_, r0, r8, rb⟩ := Rg.ok_iff.1 hro
  unfold wordsB wordsR
  refine List.map_congr_left fun k hk => ?_
  have hk := List.mem_range.1 hk
  rw [← word_eq hr hb hf _ (by omega)]
  congr 1
  omega

/-- the rows that the outer slice has so far, each apart from it -/
def SoFar (w : World) (us : List Value) (xss : List (List Nat)) (blk : Option Nat) : Prop :=
  us.length = xss.length ∧ ∀ (i : Nat) (u : Value) (xs : List Nat), us[i]? = some u → xss[i]? = some xs → URow 0 w xs u ∧ ∀ k, u.ownBlock = some k → some k ≠ blk
theorem SoFar.later {w w' : World} {us : List Value} {xss : List (List Nat)} {blk : Option Nat} (h : SoFar w us xss blk) (hB : Below w.heap.size w w') : SoFar w' us xss blk :=
  ⟨h.1, fun i u xs hu hx => ⟨(h.2 i u xs hu hx).1.later hB, (h.2 i u xs hu hx).2⟩⟩
theorem SoFar.snoc {w w' : World} {us : List Value} {xss : List (List Nat)} {blk blk' : Option Nat} {u : Value} {xs : List Nat} (h : SoFar w us xss blk) (hg : w.grownBy w' blk) (hu : URow 0 w xs u) (hne : ∀ k, u.ownBlock = some k → some k ≠ blk)
    (hb : blk' = blk ∨ ∃ H, blk' = some H ∧ w.heap.size ≤ H) : SoFar w' (us ++ [u]) (xss ++ [xs]) blk' := by
  have fin : ∀ (v : Value) (ys : List Nat), URow 0 w ys v → (∀ k, v.ownBlock = some k → some k ≠ blk) → URow 0 w' ys v ∧ ∀ k, v.ownBlock = some k → some k ≠ blk' := fun v ys hv hn => by
    refine ⟨hv.grown hg hn, fun k hk => ?_⟩
    rcases hb with rfl | ⟨H, rfl, hH⟩
    · exact hn k hk
    · have := (hv.blk hk).2
      intro e; cases e; omega
  refine ⟨by simp [h.1], fun i v ys hv hy => ?_⟩
  have hl := h.1
  rcases Nat.lt_trichotomy i us.length with hi | hi | hi
  · rw [List.getElem?_append_left hi] at hv
    rw [List.getElem?_append_left (by omega)] at hy
    exact fin v ys (h.2 i v ys hv hy).1 (h.2 i v ys hv hy).2
  · subst hi
    rw [List.getElem?_append_right (Nat.le_refl _)] at hv
    rw [hl, List.getElem?_append_right (Nat.le_refl _)] at hy
    simp at hv hy
    subst hv; subst hy
    exact fin u xs hu hne
  · rw [List.getElem?_eq_none (by simp; omega)] at hv; cases hv

set_option maxRecDepth 100000 in
set_option maxHeartbeats 6400000 in
theorem refWords_any (l : List Rg) (bt : Nat → Nat) (B g : Nat) (w : World) (h : RefIs w B g l bt) (hok : l.all Rg.ok = true) (hl : l.length ≤ 16) :
    Calls Try.prog 21 #[.pointer (some ⟨g, 0, none⟩)] w fun e w' => (∃ v, e = .returned v ∧ RRows w' (l.map (wordsB bt)) v) ∧ Below w.heap.size w w' := by
  obtain ⟨i0, hi, hz0, hz1, hz2⟩ := info_parts info_u64
  obtain ⟨i1, hi', hy0, hy1, hy2⟩ := info_parts info_us
  have HR := Lib.hid h
  have HO := Lib.hid hok
  obtain ⟨p, c, q, h1, h2, h4, h5, h6, h7, h8, h9, h10, h11, h12, h13⟩ := h
  have HS := Lib.hid h4
  have HP := Lib.hid h1
  clear h1 h4 h10 h11 h12 h13 h2 hok
  go_enter Try.func21, Try.ntmps21
  go_wp2_with fail
  go_loopg [3, 4] l.length (fun gh out i wr => ∃ (ds rs : List Rg) (us : List Value), i = .int .i64 ds.length ∧ Hid (l = ds ++ rs) ∧ rs.length = gh ∧ ds.length + rs.length = l.length ∧ Hid (wr.ownsRow w.heap.size 54 1 out us.length us) ∧ Hid (SoFar wr us (ds.map (wordsB bt)) out.ownBlock) ∧ Hid (Below w.heap.size w wr))
  case atStart => exact ⟨[], l, [], rfl, Lib.hid rfl, rfl, by simp, Lib.hid ⟨rfl, .inl ⟨rfl, rfl⟩⟩, Lib.hid ⟨rfl, fun i u xs h => by simp at h⟩, Lib.hid (Below.refl _ _)⟩
  case round =>
    obtain ⟨ds, rs, us, rfl, hE, hg, hk, hOwn, hSo, hB⟩ := hrel
    have hP := (hB.out.cell (p := ⟨g, 0, none⟩) h7).trans HP.out
    cases rs with
    | nil =>
      simp only [List.length_nil] at hk
      have hge : ¬ ds.length < l.length := by omega
      clear hg
      have hds : Hid (l = ds) := by have h0 := hE.out; rw [List.append_nil] at h0; exact h0
      obtain ⟨q1, d1, hv1, _, _, hq1, hq2⟩ := own_cap hOwn.out
      have hul : us.length = ds.length := by have := hSo.out.1; simpa using this
      have HF : Hid (RRows wr (l.map (wordsB bt)) (.slice q1 us.length d1)) := Lib.hid (by
        rw [hds.out]
        refine ⟨q1, d1, by rw [List.length_map, hul], ?_⟩
        cases q1 with
        | none => left; rw [List.length_map, ← hul]; exact (hq1 rfl).1
        | some ad =>
          obtain ⟨g', rfl, _, hlt, _, hc⟩ := hq2 ad rfl
          refine .inr ⟨g', rfl, hlt, fun i xs hx => ?_⟩
          have hi : i < us.length := by
            have := (List.getElem?_eq_some_iff.1 hx).1
            rw [List.length_map] at this; omega
          exact ⟨us[i], hc i _ (List.getElem?_eq_getElem hi), (hSo.out.2 i _ xs (List.getElem?_eq_getElem hi) hx).1⟩)
      subst hv1
      go_wp2_with fail
      go_ret
      exact ⟨⟨_, rfl, HF.out⟩, hB.out⟩
    | cons r rs =>
      simp only [List.length_cons] at hk hg
      subst hg
      obtain ⟨b, o, rfl, hb, hA⟩ : ∃ b o, p = some ⟨b, o, none⟩ ∧ b < g ∧ RgAt w l b o := by
        rcases HS.out.2 with h0 | h0
        · omega
        · exact h0
      rw [hE.out] at hA
      obtain ⟨⟨f0, f1, f2, f3⟩, _⟩ := RgAt.drop ds (r :: rs) b o hA
      have hlt : ds.length < l.length := by omega
      have hro : r.ok = true := List.all_eq_true.1 HO.out r (by rw [hE.out]; simp)
      obtain ⟨_, r0, r8, rb⟩ := Rg.ok_iff.1 hro
      obtain ⟨_, _, rz1, rz2⟩ := (Rg.ok_iff.1 hro).1
      obtain ⟨ad, had⟩ : ∃ ad : Nat, r.addr = (ad : Int) := ⟨r.addr.toNat, by omega⟩
      obtain ⟨n, hn⟩ : ∃ n : Nat, r.size = (n : Int) := ⟨r.size.toNat, by omega⟩
      rw [had] at f1
      rw [hn] at f2
      have F1 := Lib.hid f1
      have F2 := Lib.hid f2
      have HW := Lib.hid (show wordsB bt r = (List.range n).map fun k => wordAt bt (ad + 8 * k) by rw [wordsB, had, hn]; rfl)
      have hwz : w.heap.size ≤ wr.heap.size := hB.out.size
      have hpl : ds.length < l.length := hlt
      clear hA f0 f1 f2 f3 hro r8
      obtain ⟨wo, rfl⟩ : ∃ wo : World, wo = wr := ⟨_, rfl⟩
      go_wp2_with fail
      have hp0 := hP
      clear hP
      go_loopg [5, 6] n (fun gh wv k wx => ∃ kk : Nat, k = .int .i64 kk ∧ kk + gh = n ∧ Hid (wx.ownsRow wo.heap.size 25 1 wv kk (u64s ((List.range kk).map fun k => wordAt bt (ad + 8 * k)))) ∧ Hid (Below wo.heap.size wo wx))
      case atStart => exact ⟨0, rfl, by omega, Lib.hid ⟨rfl, .inl ⟨rfl, rfl⟩⟩, Lib.hid (Below.refl _ _)⟩
      case round =>
        obtain ⟨kk, rfl, hkn, hIn, hB2⟩ := hrel
        have hP2 := (hB2.out.cell (p := ⟨g, 0, none⟩) (by show g < wo.heap.size; omega)).trans hp0
        have hf1 := (hB2.out.cell (p := ⟨b, o + ds.length * 4 + 1, none⟩) (by show b < wo.heap.size; omega)).trans ((hB.out.cell (p := ⟨b, o + ds.length * 4 + 1, none⟩) (by show b < w.heap.size; omega)).trans F1.out)
        have hf2 := (hB2.out.cell (p := ⟨b, o + ds.length * 4 + 2, none⟩) (by show b < wo.heap.size; omega)).trans ((hB.out.cell (p := ⟨b, o + ds.length * 4 + 2, none⟩) (by show b < w.heap.size; omega)).trans F2.out)
        have hwz2 : wo.heap.size ≤ wr.heap.size := hB2.out.size
        by_cases hltk : kk < n
        · have HGt := Lib.hid (get_any l bt B g (ad + 8 * kk) wr ((HR.out.later hB.out).later hB2.out) (by omega))
          simp only [Int.natCast_add, Int.natCast_mul, Int.cast_ofNat_Int] at HGt
          have hsn : (u64s ((List.range kk).map fun k => wordAt bt (ad + 8 * k))) ++ [.int .u64 ((wordAt bt (ad + 8 * kk) : Nat) : Int)] = u64s ((List.range (kk + 1)).map fun k => wordAt bt (ad + 8 * k)) := by
            simp [u64s, List.range_succ]
          have HSn := Lib.hid hsn
          clear hsn
          generalize wordAt bt (ad + 8 * kk) = y at HGt HSn
          go_wp2_with fail
          refine HGt.out.mono ?_
          rintro e w' ⟨rfl, rfl⟩
          go_wp2_with (at_builtin; refine wpList_append_own _ rfl _ _ 54 rfl wo.heap.size 25 i0 (.int .u64 0) 1 8 Try.underlying54 hi hz0 hz1 hz2 rfl (by decide) _ _ _ rfl (hIn.out.alloc _) ⟨wr.heap.size, 0, none⟩ 1 1 [.int .u64 (y : Int)] rfl rfl ?c1 ?c2 ?c3 ?c4 ?c5 ?_)
          case c1 => intro j u hj; match j, hj with
            | 0, hj => simp at hj; subst hj; simp [go_sem, Addr.add]
          case c2 => intro u hu; simp at hu; subst hu; rfl
          case c3 => unfold maxLen; omega
          case c4 => omega
          case c5 => simp; omega
          intro v' w1 hown' hgrow _
          obtain ⟨gg, cc, rfl⟩ := own_form hown' (by omega)
          have HO1 := Lib.hid (show w1.ownsRow wo.heap.size 25 1 (.slice (some ⟨gg, 0, none⟩) (kk + 1) cc) (kk + 1) (u64s ((List.range (kk + 1)).map fun k => wordAt bt (ad + 8 * k))) by rw [← HSn.out]; exact hown')
          have HB3 := Lib.hid ((hB2.out.alloc hB2.out.size _).grown hgrow (by simp; omega) (fun k hk => (hIn.out.lt k hk).1))
          clear hown' hgrow
          have hgk : n - (kk + 1) < gk := by omega
          go_wp2_with fail
          go_roundg (n - (kk + 1))
          case measure => exact hgk
          case rel => exact ⟨kk + 1, by go_num, by omega, HO1, HB3⟩
        · obtain rfl : kk = n := by omega
          obtain ⟨gi, ci, rfl⟩ := own_form hIn.out (by omega)
          have HUr : Hid (URow 0 wr (wordsB bt r) (.slice (some ⟨gi, 0, none⟩) kk ci) ∧ wo.heap.size ≤ gi ∧ gi < wr.heap.size) := Lib.hid (by
            have hl : ((List.range kk).map fun k => wordAt bt (ad + 8 * k)).length = kk := by simp
            have h0 := own_u (xs := (List.range kk).map fun k => wordAt bt (ad + 8 * k)) (by rw [hl]; exact hIn.out)
            refine ⟨by rw [HW.out]; exact h0.base (Nat.zero_le _), ?_⟩
            exact hIn.out.lt gi rfl)
          have hOw2 : Hid (wr.ownsRow w.heap.size 54 1 u3 us.length us) := Lib.hid (by
            refine ⟨hOwn.out.1, ?_⟩
            rcases hOwn.out.2 with h0 | ⟨g', cap, cur, hv, hbg, hg', hr⟩
            · exact .inl h0
            · exact .inr ⟨g', cap, cur, hv, hbg, (hB2.out.block g' (hOwn.out.lt g' (by rw [hv]; rfl)).2).trans hg', hr⟩)
          have hul : us.length = ds.length := by have := hSo.out.1; simpa using this
          go_wp2_with (at_builtin; refine wpList_append_lies _ rfl _ _ 23 rfl w.heap.size 54 i1 (.slice none 0 0) 1 24 Try.underlying23 hi' hy0 hy1 hy2 rfl (by decide) _ _ _ rfl (hOw2.out.alloc _) ⟨wr.heap.size, 0, none⟩ 1 1 [.slice (some ⟨gi, 0, none⟩) kk ci] rfl rfl ?d1 ?d2 (by decide) ?d3 ?d4 ?d5 (wr.heap.size + 1) (by simp) ?_)
          case d1 => intro j u hj; match j, hj with
            | 0, hj => simp at hj; subst hj; simp [go_sem, Addr.add]
          case d2 => intro u hu; simp at hu; subst hu; rfl
          case d3 => unfold maxLen; omega
          case d4 => omega
          case d5 => simp; omega
          intro g2 cap2 w1 hown' hgrow hat hlt1
          have HBall := Lib.hid ((((hB.out.trans (hB2.out.mono hwz)).alloc (by omega) (.cells #[.slice (some ⟨gi, 0, none⟩) kk ci] 54 (0, 0))).grown hgrow (by simp; omega) (fun k hk => (hOw2.out.lt k hk).1)))
          have HOwn1 := Lib.hid hown'
          have HSo1 : Hid (SoFar w1 (us ++ [.slice (some ⟨gi, 0, none⟩) kk ci]) ((ds ++ [r]).map (wordsB bt)) (Value.slice (some ⟨g2, 0, none⟩) (us.length + 1) cap2).ownBlock) := Lib.hid (by
            have hb1 := (Below.refl wr.heap.size wr).alloc (Nat.le_refl _) (.cells #[.slice (some ⟨gi, 0, none⟩) kk ci] 54 (0, 0))
            rw [List.map_append]
            refine ((hSo.out.later hB2.out).later hb1).snoc hgrow (HUr.out.1.later hb1) (fun k hk => ?_) ?_
            · simp [Value.ownBlock] at hk
              subst hk
              intro e
              have := (hOwn.out.lt gi e.symm).2
              have := HUr.out.2.1
              omega
            · rcases hat with h | h
              · exact .inl h.symm
              · exact .inr ⟨g2, rfl, by simp; omega⟩)
          clear hown' hgrow hat
          go_wp2_with fail
          go_roundg rs.length
          case measure => omega
          case rel => exact ⟨ds ++ [r], rs, us ++ [.slice (some ⟨gi, 0, none⟩) kk ci], by rw [List.length_append]; go_num, Lib.hid (by rw [hE.out]; simp), rfl, by simp; omega, Lib.hid (by rw [List.length_append, hul]; exact HOwn1.out), Lib.hid (by first | exact HSo1.out | (rw [← hul]; exact HSo1.out)), HBall⟩
end Go.Proofs.Ytajjpaabkdgjbaa
