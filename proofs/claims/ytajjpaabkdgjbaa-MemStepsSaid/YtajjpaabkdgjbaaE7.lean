/- play, where the words that are not 0 lie in regions or in the stack. -/
import Derived.Test.YtajjpaabkdgjbaaE5
namespace Go.Proofs.Ytajjpaabkdgjbaa
open Go.RowKit

/-- a word that is not 0 is somebody's -/
def Has (l : List Rg) (f : Nat → Nat) : Prop := ∀ j, j < 8192 → f j ≠ 0 → errB l (8 * j) = 0
theorem placeIn_has : ∀ (l : List Rg) (k a : Nat) (r : Rg), r ∈ l → r.addr ≤ (a : Int) → (a : Int) < r.addr + r.size * 8 → (placeIn l k a).1 ≠ -2
  | d :: ds, k, a, r, hr, h1, h2 => by
    rw [placeIn]
    split
    · show (k : Int) ≠ -2
      omega
    · rename_i h
      rcases List.mem_cons.1 hr with rfl | hr
      · exact absurd ⟨h1, h2⟩ h
      · exact placeIn_has ds (k + 1) a r hr h1 h2
theorem errB_has {l : List Rg} {a : Nat} {r : Rg} (hr : r ∈ l) (h1 : r.addr ≤ (a : Int)) (h2 : (a : Int) < r.addr + r.size * 8) : errB l a = 0 := by
  unfold errB
  rw [if_neg]
  unfold placeOf
  split
  · show (-1 : Int) ≠ -2
    omega
  · exact placeIn_has l 0 a r hr h1 h2
theorem placeIn_word : ∀ (l : List Rg) (k a : Nat), l.all Rg.ok = true → (placeIn l k (8 * (a / 8))).1 = (placeIn l k a).1
  | [], _, _, _ => rfl
  | d :: ds, k, a, h => by
    rw [List.all_cons, Bool.and_eq_true] at h
    obtain ⟨_, h0, h8, _⟩ := Rg.ok_iff.1 h.1
    rw [placeIn, placeIn]
    by_cases hc : d.addr ≤ (a : Int) ∧ (a : Int) < d.addr + d.size * 8
    · rw [if_pos hc, if_pos (by omega)]
    · rw [if_neg hc, if_neg (by omega)]
      exact placeIn_word ds (k + 1) a h.2
theorem errB_word {l : List Rg} (hok : l.all Rg.ok = true) (a : Nat) : errB l (8 * (a / 8)) = errB l a := by
  have e : (placeOf l (8 * (a / 8))).1 = (placeOf l a).1 := by
    unfold placeOf
    by_cases hc : 49152 ≤ a ∧ a < 65536
    · have hd : 49152 ≤ 8 * (a / 8) ∧ 8 * (a / 8) < 65536 := by omega
      rw [if_pos hc, if_pos hd]
    · have hd : ¬ (49152 ≤ 8 * (a / 8) ∧ 8 * (a / 8) < 65536) := by omega
      rw [if_neg hc, if_neg hd]
      exact placeIn_word l 0 a hok
  unfold errB
  rw [e]
theorem Has.zero (l : List Rg) : Has l (fun _ => 0) := fun _ _ h => absurd rfl h
theorem Has.put {l : List Rg} {f : Nat → Nat} (h : Has l f) {j x : Nat} (hj : errB l (8 * j) = 0) : Has l (upd f j x) := fun i hi hx => by
  by_cases hc : i = j
  · rw [hc]; exact hj
  · exact h i hi (by intro e; apply hx; unfold upd; first | rw [if_neg hc]; exact e | (simp [hc, e]))
theorem Has.store {l : List Rg} {f : Nat → Nat} (h : Has l f) {a x : Nat} (h0 : errW l a = 0) : Has l (upd f (a / 8) x) :=
  h.put (by have h1 := errW_0 h0; rw [show 8 * (a / 8) = a by have := h1.1; omega]; exact h1.2)
theorem Has.byte {l : List Rg} {f : Nat → Nat} (h : Has l f) {a x : Nat} (hok : l.all Rg.ok = true) (h0 : errB l a = 0) : Has l (upd f (a / 8) x) :=
  h.put (by rw [errB_word hok]; exact h0)
theorem Has.fills {l : List Rg} (hok : l.all Rg.ok = true) : ∀ (rs : List Rg) (xs : List (List Nat)) (f : Nat → Nat), (∀ r ∈ rs, r ∈ l) → fitsB rs xs = true → Has l f → Has l (fillL rs xs f)
  | [], _, _, _, _, h => by rw [fillL] <;> first | exact h | simp
  | _ :: _, [], _, _, _, h => by rw [fillL] <;> first | exact h | simp
  | r :: rs, x :: xs, f, hm, hf, h => by
    rw [fitsB, Bool.and_eq_true, decide_eq_true_eq] at hf
    rw [fillL]
    refine Has.fills hok rs xs _ (fun d hd => hm d (List.mem_cons_of_mem _ hd)) hf.2 fun j hj hx => ?_
    have hro := List.all_eq_true.1 hok r (hm r List.mem_cons_self)
    obtain ⟨_, h0, h8, _⟩ := Rg.ok_iff.1 hro
    unfold fillW at hx
    split at hx
    · rename_i hc
      exact errB_has (hm r List.mem_cons_self) (by omega) (by omega)
    · exact h j hj hx
theorem Has.fill {l : List Rg} {xss : List (List Nat)} (hok : l.all Rg.ok = true) (hf : fitsB l xss = true) : Has l (fillL l xss (fun _ => 0)) := Has.fills hok l xss _ (fun _ h => h) hf (Has.zero l)

/-- what any step leaves -/
def DoHas (l : List Rg) (f0 : Nat → Nat) (B1 B2 g2 : Nat) (w : World) (e : Ending) (w' : World) : Prop :=
  ∃ (B3 g3 : Nat) (f bt : Nat → Nat), e = .returned (.tuple #[.pointer (some ⟨g3, 0, none⟩), .bool true]) ∧ MemIs w' B3 g3 l f ∧ RefIs w' B2 g2 l bt ∧ RelWB f bt ∧ (g3 < B2 ∨ g2 < B3) ∧ (B3 = B1 ∨ w.heap.size ≤ B3) ∧
    (∀ (N : Nat) (w0 : World), N ≤ B1 → N ≤ B2 → N ≤ w.heap.size → Below N w0 w → Below N w0 w') ∧ (Has l f0 → Has l f)
theorem do_has (l : List Rg) (f bt : Nat → Nat) (B1 g1 B2 g2 : Nat) (s : Stp) (w : World) (hm : MemIs w B1 g1 l f) (hr : RefIs w B2 g2 l bt) (hrel : RelWB f bt) (hd : g1 < B2 ∨ g2 < B1) (hok : l.all Rg.ok = true) (hl : l.length ≤ 16) (ha : s.addr < 18446744073709551616) (hx : s.x < 18446744073709551616) :
    Calls Try.prog 37 #[.pointer (some ⟨g1, 0, none⟩), .pointer (some ⟨g2, 0, none⟩), .agg #[.int .i64 s.kind, .int .u64 (s.addr : Int), .int .u64 (s.x : Int)]] w (DoHas l f B1 B2 g2 w) := by
  have hg1 := hm.gt
  obtain ⟨q2, _, hq1, hq2, hq3⟩ := hr.ptr
  have keep : ∀ w', Below w.heap.size w w' → ∀ (N : Nat) (w0 : World), N ≤ B1 → N ≤ B2 → N ≤ w.heap.size → Below N w0 w → Below N w0 w' := fun w' hB N w0 _ _ hN h0 => h0.trans (hB.mono hN)
  have keep2 : ∀ w', (∃ W1 W2, Below w.heap.size w W1 ∧ Agr g1 W1 W2 ∧ AgX B2 g2 W2 w') → ∀ (N : Nat) (w0 : World), N ≤ B1 → N ≤ B2 → N ≤ w.heap.size → Below N w0 w → Below N w0 w' := fun w' ⟨W1, W2, hB, hA, hX⟩ N w0 h1 h2 hN h0 =>
    AgX.below (Agr.below (h0.trans (hB.mono hN)) hA (by omega) (Nat.le_trans hN hB.size)) hX h2 (Nat.le_trans hN (Nat.le_trans hB.size hA.size))
  by_cases k1 : s.kind = 1
  · by_cases h0 : errW l s.addr = 0
    · refine (do_store_yes l f bt B1 g1 B2 g2 s w hm hr hd hok k1 hx h0).mono ?_
      rintro e w' ⟨rfl, hI, hR, hK⟩
      have h8 : s.addr = 8 * (s.addr / 8) := by have := (errW_0 h0).1; omega
      refine ⟨B1, g1, _, _, rfl, hI, hR, ?_, hd, .inl rfl, keep2 w' hK, fun h => Has.store h h0⟩
      have := RelWB.put hrel (s.addr / 8) s.x
      rw [← h8] at this
      exact this
    · refine (do_store_no l f bt B1 g1 B2 g2 s w hm hr hok k1 ha h0).mono ?_
      rintro e w' ⟨rfl, hI, hR, hB⟩
      exact ⟨B1, g1, _, _, rfl, hI, hR, hrel, hd, .inl rfl, keep w' hB, id⟩
  · by_cases k2 : s.kind = 2
    · by_cases h0 : errB l s.addr = 0
      · refine (do_byte_yes l f bt B1 g1 B2 g2 s w hm hr hd hok k2 h0).mono ?_
        rintro e w' ⟨rfl, hI, hR, hK⟩
        exact ⟨B1, g1, _, _, rfl, hI, hR, RelWB.byte hrel s.addr (s.x % 256) (Nat.mod_lt _ (by omega)), hd, .inl rfl, keep2 w' hK, fun h => Has.byte h hok h0⟩
      · refine (do_byte_no l f bt B1 g1 B2 g2 s w hm hr hok k2 ha h0).mono ?_
        rintro e w' ⟨rfl, hI, hR, hB⟩
        exact ⟨B1, g1, _, _, rfl, hI, hR, hrel, hd, .inl rfl, keep w' hB, id⟩
    · by_cases k3 : s.kind = 3
      · refine (do_copy l f bt B1 g1 B2 g2 s w hm hr hd hok hl k3).mono ?_
        rintro e w' ⟨⟨B3, g3, rfl, hI, h3⟩, hR, W1, hB, hA⟩
        exact ⟨B3, g3, _, _, rfl, hI, hR, hrel, .inr (by omega), .inr h3, keep2 w' ⟨W1, w', hB, hA, AgX.refl _ _ _⟩, id⟩
      · refine (do_other _ _ s w k1 k2 k3).mono ?_
        rintro e w' ⟨rfl, hB⟩
        exact ⟨B1, g1, _, _, rfl, hm.later hB, hr.later hB, hrel, hd, .inl rfl, keep w' hB, id⟩
/-- what a play leaves -/
def PlayHas (l : List Rg) (w : World) (e : Ending) (w' : World) : Prop :=
  ∃ (B1 g1 B2 g2 : Nat) (f bt : Nat → Nat), e = .returned (.tuple #[.pointer (some ⟨g1, 0, none⟩), .pointer (some ⟨g2, 0, none⟩), .bool true]) ∧ MemIs w' B1 g1 l f ∧ RefIs w' B2 g2 l bt ∧ RelWB f bt ∧ (g1 < B2 ∨ g2 < B1) ∧ w.heap.size ≤ B1 ∧ w.heap.size ≤ B2 ∧ Below w.heap.size w w' ∧ Has l f
set_option maxRecDepth 100000 in
set_option maxHeartbeats 3200000 in
theorem play_has (l : List Rg) (xss : List (List Nat)) (ss : List Stp) (p p2 p3 : Option Addr) (c c2 c3 N : Nat) (w : World) (h : RgIn w N l p) (hx : WsIn w N xss p2) (hs : StpIn w N ss p3) (hN : N ≤ w.heap.size) (hc : l.length ≤ c) (hcm : c ≤ 9223372036854775807) (hp : p = none → c = 0) (hm : mayB l = true) (hf : fitsB l xss = true) :
    Calls Try.prog 12 #[.slice p l.length c, .slice p2 xss.length c2, .slice p3 ss.length c3] w (PlayHas l w) := by
  have hok : l.all Rg.ok = true := by simp only [mayB, Bool.and_eq_true] at hm; exact hm.2.1
  have hl : l.length ≤ 16 := by simp only [mayB, Bool.and_eq_true, decide_eq_true_eq] at hm; exact hm.1
  have HO := Lib.hid (of_yes l xss p p2 c c2 N w h hx hN hc hcm hp hm hf)
  have HN := Lib.hid (fun (w1 : World) (hb : Below w.heap.size w w1) => refNew_all l p c N w1 (h.later (hb.mono hN) (Nat.le_refl _)) (Nat.le_trans hN hb.size) (by omega) hp)
  have HX := Lib.hid (fun (w1 : World) (hb : Below w.heap.size w w1) => hx.later (hb.mono hN) (Nat.le_refl _))
  have HS := Lib.hid hs
  have hm3 := hs.1
  have HOK := Lib.hid hok
  have HH3 := Lib.hid (Has.fill hok hf : Has l (fillL l xss (fun _ => 0)))
  have HF := Lib.hid hf
  have HNN := Lib.hid hN
  clear h hx hs hm hf hok hN
  unfold PlayHas
  go_enter Try.func12, Try.ntmps12
  go_wp2_with fail
  refine HO.out.mono ?_
  rintro e w1 ⟨⟨g1, rfl, hI⟩, hB⟩
  have HI1 := Lib.hid hI
  have HB1 := Lib.hid hB
  clear hI hB HO
  go_wp2_with (go_at_call 11; refine (num_any _ _).mono ?_; rintro e w' ⟨rfl, rfl⟩)
  refine (HN.out _ HB1.out).mono ?_
  rintro e w2 ⟨⟨g2, rfl, hR⟩, hB⟩
  have hg1 := HI1.out.gt
  have HB2 := Lib.hid (HB1.out.trans (hB.mono HB1.out.size))
  have HI2 := Lib.hid (HI1.out.later hB)
  have hs1 := HB1.out.size
  obtain ⟨B2, hB2e⟩ : ∃ B, B = w1.heap.size := ⟨_, rfl⟩
  rw [← hB2e] at hR
  have hgB : g1 < B2 := by omega
  have hwB : w.heap.size ≤ B2 := by omega
  have HFl := Lib.hid (refFill_any l xss (fun _ => 0) (fun _ => 0) B2 g2 N p2 c2 w2 hR rel_0 HOK.out (HX.out _ HB2.out) HF.out (Nat.le_trans HNN.out HB2.out.size) (Nat.le_trans HNN.out hwB))
  clear hB hR HN HX HI1 hB2e hs1 hg1
  go_wp2_with fail
  refine HFl.out.mono ?_
  rintro e w3 ⟨rfl, ⟨bt, hR, hrl⟩, hX⟩
  have HI3 := Lib.hid (HI2.out.agx hX (.inl hgB))
  have HR3 := Lib.hid hR
  have HL3 := Lib.hid hrl
  have HB3 := Lib.hid (AgX.below HB2.out hX hwB HB2.out.size)
  clear hR hrl hX HFl HI2
  go_wp2_with fail
  go_loopw [9, 12, 13] (fun t9 t12 t13 wr => ∃ (ds rs : List Stp) (B1 g : Nat) (f bt : Nat → Nat), t9 = .pointer (some ⟨g, 0, none⟩) ∧ t12 = .bool true ∧ t13 = .int .i64 ds.length ∧ Hid (ss = ds ++ rs) ∧ ds.length + rs.length = ss.length ∧ Hid (MemIs wr B1 g l f) ∧ Hid (RefIs wr B2 g2 l bt) ∧ Hid (RelWB f bt) ∧ (g < B2 ∨ g2 < B1) ∧ w.heap.size ≤ B1 ∧ Hid (Below w.heap.size w wr) ∧ Hid (Has l f)) (fun _ _ t13 _ => ss.length - (intOf t13).toNat)
  case atStart => exact ⟨[], ss, _, g1, _, bt, rfl, rfl, rfl, Lib.hid rfl, by simp, HI3, HR3, HL3, .inl hgB, Nat.le_refl _, HB3, HH3⟩
  case round =>
    clear HI3 HR3 HL3 HB3 hgB HH3
    obtain ⟨ds, rs, B1, g, f, bt, rfl, rfl, rfl, hE, hk, hI, hR, hrl, hd, hwB1, hB, hH⟩ := hrel
    cases rs with
    | nil =>
      simp only [List.length_nil] at hk
      have hge : ¬ ds.length < ss.length := by omega
      go_wp2_with fail
      exact bodyPost_ret (v := .tuple #[.pointer (some ⟨g, 0, none⟩), .pointer (some ⟨g2, 0, none⟩), .bool true]) (by simp [results, Try.results12, go_sem]) rfl ⟨B1, g, B2, g2, f, bt, rfl, hI.out, hR.out, hrl.out, hd, hwB1, hwB, hB.out, hH.out⟩
    | cons s rs =>
      simp only [List.length_cons] at hk
      have hlt : ds.length < ss.length := by omega
      rcases HS.out.2 with h0 | ⟨b3, o3, rfl, hb3, ha3⟩
      · omega
      rw [hE.out] at ha3
      obtain ⟨⟨k0, k1, k2, ka, kx⟩, _⟩ := StpAt.drop _ _ _ ha3
      have hb3w : b3 < w.heap.size := by have := HNN.out; omega
      have d0 := (hB.out.cell (p := ⟨b3, o3 + ds.length * 3, none⟩) hb3w).trans k0
      have d1 := (hB.out.cell (p := ⟨b3, o3 + ds.length * 3 + 1, none⟩) hb3w).trans k1
      have d2 := (hB.out.cell (p := ⟨b3, o3 + ds.length * 3 + 2, none⟩) hb3w).trans k2
      have HD := Lib.hid (do_has l f bt B1 g B2 g2 s wr hI.out hR.out hrl.out hd HOK.out hl ka kx)
      clear k0 k1 k2 ka kx ha3
      go_wp2_with fail
      refine HD.out.mono ?_
      rintro e w4 ⟨B3, g3, f3, bt3, rfl, hI4, hR4, hrl4, hd4, hb4, hK, hN4⟩
      have HI4 := Lib.hid hI4
      have HR4 := Lib.hid hR4
      have HL4 := Lib.hid hrl4
      have HB4 := Lib.hid (hK w.heap.size w hwB1 hwB hB.out.size hB.out)
      have HN4 := Lib.hid (hN4 hH.out)
      have hwB3 : w.heap.size ≤ B3 := by have := hB.out.size; omega
      clear hI4 hR4 hrl4 hK HD hb4 d0 d1 d2 hN4
      go_wp2_with fail
      go_roundw
      case rel => exact ⟨ds ++ [s], rs, B3, g3, f3, bt3, rfl, rfl, by rw [List.length_append]; go_num, Lib.hid (by rw [hE.out]; simp), by simp; omega, HI4, HR4, HL4, hd4, hwB3, HB4, HN4⟩
      case measure => simp [intOf]; omega
end Go.Proofs.Ytajjpaabkdgjbaa
