/- A region's words: wordsOf, Clone. -/
import Derived.Test.YtajjpaabkdgjbaaBF
import Derived.Test.YtajjpaabkdgjbaaB9
namespace Go.Proofs.Ytajjpaabkdgjbaa
open Go.RowKit

def u64s (xs : List Nat) : List Value := xs.map fun x => .int .u64 (x : Nat)
/-- words in a slice of the call's own -/
def URow (B : Nat) (w : World) (xs : List Nat) (v : Value) : Prop :=
  ∃ q d, v = .slice q xs.length d ∧ xs.length ≤ d ∧ (q = none → xs = []) ∧ ∀ ad, q = some ad → ∃ g, ad = ⟨g, 0, none⟩ ∧ B ≤ g ∧ g < w.heap.size ∧ ∀ i x, xs[i]? = some x → w.cell? ⟨g, i, none⟩ = some (.int .u64 (x : Nat))
theorem own_u {w : World} {base : Nat} {v : Value} {xs : List Nat} (h : w.ownsRow base 25 1 v xs.length (u64s xs)) : URow base w xs v := by
  obtain ⟨q, d, hv, h1, h2, h3, h4⟩ := own_cap h
  refine ⟨q, d, hv, h1, fun h => List.eq_nil_of_length_eq_zero (h3 h).1, fun ad had => ?_⟩
  obtain ⟨g, hg, hb, hlt, _, hc⟩ := h4 ad had
  exact ⟨g, hg, hb, hlt, fun i x hx => hc i _ (by simp [u64s, hx])⟩
theorem URow.later {B : Nat} {w w' : World} {xs : List Nat} {v : Value} (h : URow B w xs v) (hB : Below w.heap.size w w') : URow B w' xs v := by
  obtain ⟨q, d, hv, h1, h2, h3⟩ := h
  refine ⟨q, d, hv, h1, h2, fun ad had => ?_⟩
  obtain ⟨g, hg, hb, hlt, hc⟩ := h3 ad had
  exact ⟨g, hg, hb, Nat.lt_of_lt_of_le hlt hB.size, fun i x hx => (hB.cell (p := ⟨g, i, none⟩) hlt).trans (hc i x hx)⟩
theorem info_u64 : (Try.prog.info? 25).map (fun i => (i.zero, i.size, i.bytes)) = some (some (.int .u64 0), 1, 8) := by kernel_rfl

set_option maxRecDepth 100000 in
set_option maxHeartbeats 1600000 in
theorem cloneU_any (xs : List Nat) (ad : Addr) (c : Nat) (w : World) (hs : ∀ j u, (u64s xs)[j]? = some u → w.cell? (ad.add j) = some u) (hz : ∀ j u, (u64s xs)[j]? = some u → (ad.add j).block < w.heap.size) (hl : xs.length ≤ 1000000) :
    Calls Try.prog 44 #[.slice (some ad) xs.length c] w fun e w' => (∃ v, e = .returned v ∧ URow w.heap.size w' xs v) ∧ Below w.heap.size w w' := by
  obtain ⟨i0, hi, hz0, hz1, hz2⟩ := info_parts info_u64
  have HS := Lib.hid hs
  have HZ := Lib.hid hz
  clear hs hz
  have q22 : ∀ (w : World) (a : Option Addr) (n c n' c' : Nat), (binOp .eql 54 (.slice a n c) (.slice none n' c')).run Try.prog w = .ok (.bool a.isNone) w := fun w a n c n' c' => Lib.run_eql_slice_nil w _ _ a n c n' c' Try.underlying54
  go_enter Try.func44, Try.ntmps44
  go_wp2_with (at_builtin; refine wpList_append_own _ rfl _ _ 54 rfl w.heap.size 25 i0 (.int .u64 0) 1 8 Try.underlying54 hi hz0 hz1 hz2 rfl (by decide) _ _ _ rfl (World.ownsRow_made w #[] 0 (Nat.le_refl _) (Nat.zero_le _) rfl) ad xs.length c (u64s xs) rfl ?q1 ?q2 ?q6 ?q3 ?q4 ?q5 ?_)
  case q1 => simp [u64s]
  case q2 => exact fun j u hu => ((Below.refl _ w).alloc (Nat.le_refl _) _).cell (HZ.out j u hu) |>.trans (HS.out j u hu)
  case q6 => intro u hu; simp [u64s] at hu; obtain ⟨x, _, rfl⟩ := hu; rfl
  case q3 => unfold maxLen; omega
  case q4 => omega
  case q5 => simp
  intro v' w1 hown hgrow _
  have HO := Lib.hid (own_u (xs := xs) (by simpa using hown))
  have HB := Lib.hid (((Below.refl _ w).alloc (Nat.le_refl _) _).grown hgrow (by simp) (by intro k hk; simp [Value.ownBlock] at hk; omega))
  clear hown hgrow
  go_wp2_with fail
  go_ret
  exact ⟨⟨v', rfl, HO.out⟩, HB.out⟩

set_option maxHeartbeats 1600000 in
theorem wordsOf_any (r : Rg) (g j n : Nat) (w : World) (_hg : g < w.heap.size) (hj : r.addr = 8 * (j : Int)) (hn : r.size = (n : Int)) (h1 : n ≤ 512) (h2 : j + n ≤ 6144) :
    Calls Try.prog 34 #[.pointer (some ⟨g, 0, none⟩), r.val] w fun e w' => e = .returned (.slice (some ⟨g, 2 + j, none⟩) n (8192 - j)) ∧ Below w.heap.size w w' := by
  obtain ⟨nm, ad, sz, sc⟩ := r
  simp only at hj hn
  subst hj
  subst hn
  have hT : (8 * (j : Int)).tdiv 8 = (j : Int) := by rw [Int.mul_comm]; exact Int.mul_tdiv_cancel _ (by decide)
  have i0 : (0 : Int) ≤ (j : Int) := by omega
  have i1 : (j : Int) ≤ 8192 := by omega
  have i2 : (0 : Int) ≤ (n : Int) := by omega
  have i3 : (n : Int) ≤ ((8192 - j : Nat) : Int) := by omega
  have hW : IntKind.i64.wrap (j : Int) = (j : Int) := wrap_i _ (by omega) (by omega)
  go_enter Try.func34, Try.ntmps34
  go_wp2_with fail
  go_quiet (fail)
  all_goals go_wp2_with fail
  all_goals go_ret
  all_goals exact ⟨rfl, below_drewN ((Below.refl _ _).alloc (Nat.le_refl _) _) _⟩

/-- a region's words -/
def wordsR (f : Nat → Nat) (r : Rg) : List Nat := (List.range r.size.toNat).map fun k => f (r.addr.toNat / 8 + k)
def wordsL (f : Nat → Nat) (l : List Rg) : List (List Nat) := l.map (wordsR f)
theorem wordsR_len (f : Nat → Nat) (r : Rg) : (wordsR f r).length = r.size.toNat := by simp [wordsR]

/-- the first k rows of a slice of slices are there -/
def OutIs (w : World) (go n k : Nat) (xss : List (List Nat)) : Prop :=
  ∀ i, i < n → ∃ u, w.cell? ⟨go, i, none⟩ = some u ∧ w.frozen? ⟨go, i, none⟩ = false ∧ (i < k → ∀ xs, xss[i]? = some xs → URow (go + 1) w xs u)
theorem URow.set {B : Nat} {w : World} {xs : List Nat} {v u : Value} {b o : Nat} (h : URow B w xs v) (hb : b < B) : URow B (w.setCell ⟨b, o, none⟩ u) xs v := by
  obtain ⟨q, d, hv, h1, h2, h3⟩ := h
  refine ⟨q, d, hv, h1, h2, fun ad had => ?_⟩
  obtain ⟨g, hg, hbg, hlt, hc⟩ := h3 ad had
  refine ⟨g, hg, hbg, by simpa [World.setCell] using hlt, fun i x hx => ?_⟩
  rw [World.cell?_setCell_other _ _ _ _ (fun e => by cases e; omega)]
  exact hc i x hx
theorem URow.base {B B' : Nat} {w : World} {xs : List Nat} {v : Value} (h : URow B w xs v) (hB : B' ≤ B) : URow B' w xs v := by
  obtain ⟨q, d, hv, h1, h2, h3⟩ := h
  refine ⟨q, d, hv, h1, h2, fun ad had => ?_⟩
  obtain ⟨g, hg, hbg, hlt, hc⟩ := h3 ad had
  exact ⟨g, hg, by omega, hlt, hc⟩
theorem OutIs.step {wr w1 : World} {go n k : Nat} {xss : List (List Nat)} {xs : List Nat} {v : Value} (h : OutIs wr go n k xss) (hgo : go < wr.heap.size) (hB : Below wr.heap.size wr w1) (hk : k < n) (hx : xss[k]? = some xs) (hv : URow wr.heap.size w1 xs v) :
    OutIs (w1.setCell ⟨go, k, none⟩ v) go n (k + 1) xss := by
  intro i hi
  obtain ⟨u, hu, hf, hr⟩ := h i hi
  have hu1 := (hB.cell (p := ⟨go, i, none⟩) hgo).trans hu
  have hf1 := (hB.frozen (p := ⟨go, i, none⟩) hgo).trans hf
  by_cases e : i = k
  · subst e
    refine ⟨v, World.cell?_setCell_same _ _ _ hu1, by rw [World.frozen?_setCell]; exact hf1, fun _ ys hy => ?_⟩
    rw [hx] at hy
    cases hy
    exact (hv.base (by omega)).set (Nat.lt_succ_self _)
  · refine ⟨u, ?_, by rw [World.frozen?_setCell]; exact hf1, fun hik ys hy => ?_⟩
    · rw [World.cell?_setCell_other _ _ _ _ (fun h => e (by cases h; rfl))]; exact hu1
    · exact ((hr (by omega) ys hy).later hB).set (Nat.lt_succ_self _)
theorem info_us : (Try.prog.info? 54).map (fun i => (i.zero, i.size, i.bytes)) = some (some (.slice none 0 0), 1, 24) := by kernel_rfl
theorem make_us (n : Nat) (hn : n ≤ 1000000) : ∃ Z : Array Value, (∀ w : World, (Instr.makeSlice 23 (.int .i64 n) (.int .i64 n)).run Try.prog w = .ok (.slice (some ⟨w.heap.size, 0, none⟩) n n) (w.alloc (.cells Z 54 (0, 0)))) ∧ ∀ j, j < n → Z[j]? = some (.slice none 0 0) := by
  obtain ⟨i0, hi, hz0, hz1, hz2⟩ := info_parts info_us
  refine ⟨madeCells #[.slice none 0 0] n, fun w => ?_, fun j hj => ?_⟩
  · have h := run_make (P := Try.prog) w 23 54 i0 (.slice none 0 0) Try.underlying23 hi hz0 .i64 .i64 n n (by omega) (by omega) (by rw [hz2]; omega) (by omega)
    rw [hz1, Nat.mul_one] at h
    exact h
  · have h := toList_madeCells_one (.slice none 0 0) n
    rw [← Array.getElem?_toList, h, List.getElem?_replicate, if_pos hj]

set_option maxRecDepth 100000 in
set_option maxHeartbeats 3200000 in
theorem words_any (l : List Rg) (f : Nat → Nat) (B g : Nat) (w : World) (h : MemIs w B g l f) (hok : l.all Rg.ok = true) (hl : l.length ≤ 16) :
    Calls Try.prog 19 #[.pointer (some ⟨g, 0, none⟩)] w fun e w' => (e = .returned (.slice (some ⟨w.heap.size, 0, none⟩) l.length l.length) ∧ OutIs w' w.heap.size l.length l.length (wordsL f l)) ∧ w.heap.size < w'.heap.size ∧ Below w.heap.size w w' := by
  have HI := Lib.hid h.isn
  have HM := Lib.hid h
  have HO := Lib.hid hok
  obtain ⟨p, c, q, h1, h2, h3, h4, h5, h6, h7, h8, h9, h10, h11, h12, h13⟩ := h
  have HS := Lib.hid h4
  obtain ⟨Z, hmk, hZ⟩ := make_us l.length (by omega)
  have HZ := Lib.hid hZ
  clear h4 h10 h11 h12 h13 h2 h3 hok hZ
  go_enter Try.func19, Try.ntmps19
  go_wp2_with (first | (go_at_call 43; (with_reducible refine HI.out.mono ?_); rintro e w' ⟨rfl, rfl⟩))
  have HB0 := Lib.hid ((Below.refl _ w).alloc (Nat.le_refl _) (.cells Z 54 (0, 0)))
  have HO0 : Hid (OutIs (w.alloc (.cells Z 54 (0, 0))) w.heap.size l.length 0 (wordsL f l)) := Lib.hid fun i hi =>
    ⟨.slice none 0 0, by rw [cell_of_row _ _ _ _ _ _ (heap_alloc_new w _)]; exact HZ.out i hi, by unfold World.frozen?; simp only [heap_alloc_new w (.cells Z 54 (0, 0))]; simp, fun h => absurd h (Nat.not_lt_zero _)⟩
  clear hmk h1
  go_loopw [19] (fun i wr => ∃ (ds rs : List Rg), i = .int .i64 ds.length ∧ Hid (l = ds ++ rs) ∧ ds.length + rs.length = l.length ∧ w.heap.size < wr.heap.size ∧ Hid (OutIs wr w.heap.size l.length ds.length (wordsL f l)) ∧ Hid (Below w.heap.size w wr)) (fun i _ => l.length - (intOf i).toNat)
  case atStart => exact ⟨[], l, rfl, Lib.hid rfl, by simp, by simp, HO0, HB0⟩
  case round =>
    obtain ⟨ds, rs, rfl, hE, hk, hgo, hOut, hB⟩ := hrel
    cases rs with
    | nil =>
      simp only [List.length_nil] at hk
      have hge : ¬ ds.length < l.length := by omega
      have hlen : Hid (ds.length = l.length) := Lib.hid (by omega)
      go_wp2_with fail
      go_ret
      exact ⟨⟨rfl, by have h := hOut.out; rw [hlen.out] at h; exact h⟩, hgo, hB.out⟩
    | cons r rs =>
      simp only [List.length_cons] at hk
      obtain ⟨b, o, rfl, hb, hA⟩ : ∃ b o, p = some ⟨b, o, none⟩ ∧ b < g ∧ RgAt w l b o := by
        rcases HS.out.2 with h0 | h0
        · omega
        · exact h0
      rw [hE.out] at hA
      obtain ⟨⟨f0, f1, f2, f3⟩, _⟩ := RgAt.drop ds (r :: rs) b o hA
      have g0 := (hB.out.cell (show b < w.heap.size by omega)).trans f0
      have g1 := (hB.out.cell (show b < w.heap.size by omega)).trans f1
      have g2 := (hB.out.cell (show b < w.heap.size by omega)).trans f2
      have g3 := (hB.out.cell (show b < w.heap.size by omega)).trans f3
      have hlt : ds.length < l.length := by omega
      have hro : r.ok = true := List.all_eq_true.1 HO.out r (by rw [hE.out]; simp)
      obtain ⟨_, r0, r8, rb⟩ := Rg.ok_iff.1 hro
      obtain ⟨_, _, rz1, rz2⟩ := (Rg.ok_iff.1 hro).1
      obtain ⟨j, hj⟩ : ∃ j : Nat, r.addr.toNat / 8 = j := ⟨_, rfl⟩
      obtain ⟨n, hn⟩ : ∃ n : Nat, r.size.toNat = n := ⟨_, rfl⟩
      have hwz : w.heap.size ≤ wr.heap.size := hB.out.size
      have CW : Hid (∀ W : World, wr.heap.size ≤ W.heap.size → Calls Try.prog 34 #[.pointer (some ⟨g, 0, none⟩), r.val] W fun e w' => e = .returned (.slice (some ⟨g, 2 + j, none⟩) n (8192 - j)) ∧ Below W.heap.size W w') :=
        Lib.hid fun W hW => wordsOf_any r g j n W (by omega) (by omega) (by omega) (by omega) (by omega)
      have hx : Hid ((wordsL f l)[ds.length]? = some (wordsR f r)) := Lib.hid (by rw [wordsL, hE.out]; simp)
      have CC : Hid (∀ W : World, Below w.heap.size w W → Calls Try.prog 44 #[.slice (some ⟨g, 2 + j, none⟩) n (8192 - j)] W fun e w' => (∃ v, e = .returned v ∧ URow W.heap.size w' (wordsR f r) v) ∧ Below W.heap.size W w') := Lib.hid fun W hBW => by
        have hlen : (wordsR f r).length = n := by rw [wordsR_len, hn]
        rw [← hlen]
        refine cloneU_any (wordsR f r) ⟨g, 2 + j, none⟩ (8192 - j) W (fun i u hu => ?_) (fun i u hu => ?_) (by omega)
        · rw [add_of]
          simp only [u64s, List.getElem?_map, Option.map_eq_some_iff] at hu
          obtain ⟨x, hx, rfl⟩ := hu
          have hi : i < n := by
            rcases Nat.lt_or_ge i n with h | h
            · exact h
            · rw [List.getElem?_eq_none (by omega)] at hx; cases hx
          have hxe : x = f (j + i) := by
            rw [wordsR, List.getElem?_map, List.getElem?_range (by omega), hj] at hx
            simpa using hx.symm
          rw [hxe, show 2 + j + i = 2 + (j + i) by omega]
          exact ((HM.out.later hBW).cell (j + i) (by omega)).1
        · rw [add_of]
          exact Nat.lt_of_lt_of_le h7 hBW.size
      clear hA f0 f1 f2 f3 hro r8
      have HB1 := Lib.hid (hB.out.alloc hwz (.cells #[.string r.name, .int .i64 r.addr, .int .i64 r.size, .bool r.sec] 66 (0, 0)))
      have HBr1 := Lib.hid ((Below.refl _ wr).alloc (Nat.le_refl _) (.cells #[.string r.name, .int .i64 r.addr, .int .i64 r.size, .bool r.sec] 66 (0, 0)))
      go_wp2_with fail
      refine (CW.out _ (by simp)).mono ?_
      rintro e w1 ⟨rfl, hB1⟩
      have HB2 := Lib.hid (HB1.out.trans (hB1.mono HB1.out.size))
      have HBr2 := Lib.hid (HBr1.out.trans (hB1.mono HBr1.out.size))
      clear hB1
      go_wp2_with fail
      refine (CC.out _ HB2.out).mono ?_
      rintro e w2 ⟨⟨v, rfl, hv⟩, hB2⟩
      have HB3 := Lib.hid (HB2.out.trans (hB2.mono HB2.out.size))
      have HBr3 := Lib.hid (HBr2.out.trans (hB2.mono HBr2.out.size))
      have HV := Lib.hid (hv.base HBr2.out.size)
      obtain ⟨u0, hu0, hf0, _⟩ := hOut.out ds.length hlt
      have hu2 := (HBr3.out.cell (p := ⟨w.heap.size, ds.length, none⟩) hgo).trans hu0
      have hf2 := (HBr3.out.frozen (p := ⟨w.heap.size, ds.length, none⟩) hgo).trans hf0
      have HO4 := Lib.hid (hOut.out.step hgo HBr3.out hlt hx.out HV.out)
      have HB4 := Lib.hid (HB3.out.setCell (p := ⟨w.heap.size, ds.length, none⟩) (Nat.le_refl _) v)
      have hz4 := HBr3.out.size
      obtain ⟨q1, d1, rfl, _⟩ := hv
      clear hB2 hu0 hf0
      go_wp2_with fail
      go_roundw
      case rel => exact ⟨ds ++ [r], rs, by rw [List.length_append]; go_num, Lib.hid (by rw [hE.out]; simp), by simp; omega, by simp [World.setCell]; omega, Lib.hid (by rw [List.length_append]; exact HO4.out), HB4⟩
      case measure => simp [intOf]; omega
end Go.Proofs.Ytajjpaabkdgjbaa
