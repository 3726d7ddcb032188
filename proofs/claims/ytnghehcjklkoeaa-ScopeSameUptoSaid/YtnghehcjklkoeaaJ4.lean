/- Words, arrays, what is set, names in a list. -/
import Derived.Test.YtnghehcjklkoeaaJ3
namespace Go.Proofs.Ytnghehcjklkoeaa
open Go.RowKit

def wordR (x : Prg) (fn : Fnc) (nm : List UInt8) : Nat := if (found x fn nm).2.1 then ask ((found x fn nm).1.kind == 1) 9 else 8
def arrayR (x : Prg) (fn : Fnc) (nm : List UInt8) : Nat := if (found x fn nm).2.1 then ask ((found x fn nm).1.kind != 1) 9 else 8
def setR (x : Prg) (fn : Fnc) (f : List UInt8 → Nat) (nm : List UInt8) : Nat := seq (wordR x fn nm) (ask (decide (f nm = 0)) 2)
theorem Plc.cells {W : World} {g : Nat} {t : Plc} (k : W.heap[g]? = some t.obj) : W.cell? ⟨g, 0, none⟩ = some (.pointer (some ⟨t.pb, 0, none⟩)) ∧ W.cell? ⟨g, 1, none⟩ = some (.int .i64 (t.fi : Int)) ∧ W.cell? ⟨g, 2, none⟩ = some (.map (some t.mb)) ∧ W.cell? ⟨g, 3, none⟩ = some (.slice t.ap t.ar.length t.ac) ∧ W.cell? ⟨g, 4, none⟩ = some (.int .i64 (t.deep : Int)) :=
  ⟨cell_blk k rfl, cell_blk k rfl, cell_blk k rfl, cell_blk k rfl, cell_blk k rfl⟩
set_option maxHeartbeats 3200000 in
theorem word_any (x : Prg) (s : PrgP) (fn : Fnc) (f : List UInt8 → Nat) (t : Plc) (nm : List UInt8) (N : Nat) (w : World) (h : PlOk w N x s fn f t) :
    Calls Try.prog 98 #[t.v, .string (str nm)] w (Chk (wordR x fn nm) w) := by
  obtain ⟨W0, hW0, k0, hB0, hz0⟩ := one_alloc w t.obj
  have HFi := Lib.hid (kindOf_any x s fn f t nm N W0 (h.later hB0))
  have HB0 := Lib.hid hB0
  have HW0 := Lib.hid hW0
  obtain ⟨c0, c1, c2, c3, c4⟩ := Plc.cells k0
  obtain ⟨⟨v, is, rg⟩, hr⟩ : ∃ r, found x fn nm = r := ⟨_, rfl⟩
  unfold wordR
  rw [hr] at HFi ⊢
  unfold Plc.obj at HW0
  unfold Plc.v at HFi ⊢
  clear h hW0 k0 hB0 hz0 hr
  cases is with
  | false =>
    go_enter Try.func98, Try.ntmps98
    go_upto_region 1 with fail
    rw [HW0.out]
    go_wp2_with fail
    refine HFi.out.mono ?_
    rintro z w1 ⟨rfl, hB1⟩
    have HR := Lib.hid (show Chk 8 w (Pn 8) w1 from Chk.no' (e := 8) rfl (by decide) (HB0.out.trans (hB1.mono HB0.out.size)))
    simp only [Bool.false_eq_true, if_false]
    unfold Pn at HR ⊢
    clear hB1
    go_wp2_with fail
    exact ⟨rfl, HR.out⟩
  | true =>
    simp only [if_true] at HFi ⊢
    generalize v.kind = k at HFi
    generalize e1 : (k == 1) = t1
    cases t1 with
    | false =>
      go_enter Try.func98, Try.ntmps98
      go_upto_region 1 with fail
      rw [HW0.out]
      go_wp2_with fail
      refine HFi.out.mono ?_
      rintro z w1 ⟨rfl, hB1⟩
      have HR := Lib.hid (show Chk (ask false 9) w (Pn 9) w1 from Chk.no' (e := 9) rfl (by decide) (HB0.out.trans (hB1.mono HB0.out.size)))
      unfold Pn at HR
      clear hB1
      go_wp2_with (go_at_call 57; refine (must_no 9 _).mono ?_; rintro e w' ⟨rfl, hw⟩; subst hw; unfold Pn)
      exact ⟨rfl, HR.out⟩
    | true =>
      go_enter Try.func98, Try.ntmps98
      go_upto_region 1 with fail
      rw [HW0.out]
      go_wp2_with fail
      refine HFi.out.mono ?_
      rintro z w1 ⟨rfl, hB1⟩
      have HR := Lib.hid (show Chk (ask true 9) w (.returned (.tuple #[])) w1 from .ok rfl (HB0.out.trans (hB1.mono HB0.out.size)))
      clear hB1
      go_wp2_with (go_at_call 57; refine (must_yes 9 _).mono ?_; rintro e w' ⟨rfl, hw⟩; subst hw)
      go_end0
      exact HR.out
set_option maxHeartbeats 3200000 in
theorem array_any (x : Prg) (s : PrgP) (fn : Fnc) (f : List UInt8 → Nat) (t : Plc) (nm : List UInt8) (N : Nat) (w : World) (h : PlOk w N x s fn f t) :
    Calls Try.prog 83 #[t.v, .string (str nm)] w (Chk (arrayR x fn nm) w) := by
  obtain ⟨W0, hW0, k0, hB0, hz0⟩ := one_alloc w t.obj
  have HFi := Lib.hid (kindOf_any x s fn f t nm N W0 (h.later hB0))
  have HB0 := Lib.hid hB0
  have HW0 := Lib.hid hW0
  obtain ⟨c0, c1, c2, c3, c4⟩ := Plc.cells k0
  obtain ⟨⟨v, is, rg⟩, hr⟩ : ∃ r, found x fn nm = r := ⟨_, rfl⟩
  unfold arrayR
  rw [hr] at HFi ⊢
  unfold Plc.obj at HW0
  unfold Plc.v at HFi ⊢
  clear h hW0 k0 hB0 hz0 hr
  cases is with
  | false =>
    go_enter Try.func83, Try.ntmps83
    go_upto_region 1 with fail
    rw [HW0.out]
    go_wp2_with fail
    refine HFi.out.mono ?_
    rintro z w1 ⟨rfl, hB1⟩
    have HR := Lib.hid (show Chk 8 w (Pn 8) w1 from Chk.no' (e := 8) rfl (by decide) (HB0.out.trans (hB1.mono HB0.out.size)))
    simp only [Bool.false_eq_true, if_false]
    unfold Pn at HR ⊢
    clear hB1
    go_wp2_with fail
    exact ⟨rfl, HR.out⟩
  | true =>
    simp only [if_true] at HFi ⊢
    generalize v.kind = k at HFi
    generalize e1 : (k != 1) = t1
    cases t1 with
    | false =>
      go_enter Try.func83, Try.ntmps83
      go_upto_region 1 with fail
      rw [HW0.out]
      go_wp2_with fail
      refine HFi.out.mono ?_
      rintro z w1 ⟨rfl, hB1⟩
      have HR := Lib.hid (show Chk (ask false 9) w (Pn 9) w1 from Chk.no' (e := 9) rfl (by decide) (HB0.out.trans (hB1.mono HB0.out.size)))
      unfold Pn at HR
      clear hB1
      go_wp2_with (go_at_call 57; refine (must_no 9 _).mono ?_; rintro e w' ⟨rfl, hw⟩; subst hw; unfold Pn)
      exact ⟨rfl, HR.out⟩
    | true =>
      go_enter Try.func83, Try.ntmps83
      go_upto_region 1 with fail
      rw [HW0.out]
      go_wp2_with fail
      refine HFi.out.mono ?_
      rintro z w1 ⟨rfl, hB1⟩
      have HR := Lib.hid (show Chk (ask true 9) w (.returned (.tuple #[])) w1 from .ok rfl (HB0.out.trans (hB1.mono HB0.out.size)))
      clear hB1
      go_wp2_with (go_at_call 57; refine (must_yes 9 _).mono ?_; rintro e w' ⟨rfl, hw⟩; subst hw)
      go_end0
      exact HR.out
set_option maxHeartbeats 3200000 in
theorem set_any (x : Prg) (s : PrgP) (fn : Fnc) (f : List UInt8 → Nat) (t : Plc) (nm : List UInt8) (N : Nat) (w : World) (h : PlOk w N x s fn f t) :
    Calls Try.prog 82 #[t.v, .string (str nm)] w (Chk (setR x fn f nm) w) := by
  obtain ⟨W0, hW0, k0, hB0, hz0⟩ := one_alloc w t.obj
  have HFi := Lib.hid (word_any x s fn f t nm N W0 (h.later hB0))
  have HB0 := Lib.hid hB0
  have HW0 := Lib.hid hW0
  have HL := Lib.hid (fun (W : World) (hB : Below W0.heap.size W0 W) => show W.cell? ⟨w.heap.size, 2, none⟩ = some (.map (some t.mb)) ∧ (Instr.lookup 78 (.map (some t.mb)) (.string (str nm)) false).run Try.prog W = .ok (.int .i64 (f nm : Int)) W from
    ⟨cell_blk ((hB.block _ (lt_blk k0)).trans k0) rfl, (((h.later hB0).later hB).mp).look Try.underlying78 Try.underlying9 zeroInt nm⟩)
  obtain ⟨c0, c1, c2, c3, c4⟩ := Plc.cells k0
  unfold setR
  generalize wordR x fn nm = r at HFi ⊢
  unfold Plc.obj at HW0
  unfold Plc.v at HFi ⊢
  clear h hW0 k0 hB0 hz0
  go_enter Try.func82, Try.ntmps82
  go_upto_region 1 with fail
  rw [HW0.out]
  go_wp2_with fail
  refine HFi.out.mono ?_
  intro z w1 hc
  rcases hc with ⟨h1, hB1⟩ | ⟨h1, hB1⟩
  rotate_left
  · have HR := Lib.hid (show Chk (seq r (ask (decide (f nm = 0)) 2)) w (Pn (r : Int)) w1 from by rw [seq_no h1]; exact .no h1 (HB0.out.trans (hB1.mono HB0.out.size)))
    unfold Pn at HR ⊢
    clear hB1 h1 c0 c1 c2 c3 c4
    go_wp2_with fail
    exact ⟨rfl, HR.out⟩
  subst h1
  obtain ⟨l0, l1⟩ := HL.out w1 hB1
  have HB1 := Lib.hid (HB0.out.trans (hB1.mono HB0.out.size))
  have he : ((f nm : Int) == 0) = decide (f nm = 0) := by rw [Bool.eq_iff_iff]; simp
  have HD := Lib.hid (show decide (f nm = 0) = decide (f nm = 0) from rfl)
  clear hB1 c0 c1 c2 c3 c4
  obtain ⟨t1, ht1⟩ : ∃ t1, decide (f nm = 0) = t1 := ⟨_, rfl⟩
  have HD := Lib.hid ht1
  rw [ht1] at he
  clear ht1
  cases t1 with
  | true =>
    have HR := Lib.hid (show Chk (seq 0 (ask (decide (f nm = 0)) 2)) w (.returned (.tuple #[])) w1 from .ok (by rw [HD.out]; rfl) HB1.out)
    go_wp2_with (go_at_call 57; refine (must_yes 2 _).mono ?_; rintro e w' ⟨rfl, hw⟩; subst hw)
    go_end0
    exact HR.out
  | false =>
    have HR := Lib.hid (show Chk (seq 0 (ask (decide (f nm = 0)) 2)) w (Pn 2) w1 from Chk.no' (e := 2) (by rw [HD.out]; rfl) (by decide) HB1.out)
    unfold Pn at HR
    go_wp2_with (go_at_call 57; refine (must_no 2 _).mono ?_; rintro e w' ⟨rfl, hw⟩; subst hw; unfold Pn)
    exact ⟨rfl, HR.out⟩
theorem str_get {w : World} {l : List (List UInt8)} {b o : Nat} (h : Row (StrAt w) 1 l b o) {d r : List (List UInt8)} {y : List UInt8} (e : l = d ++ y :: r) : w.cell? ⟨b, o + d.length, none⟩ = some (.string (str y)) := by
  have := Row.get (i := d.length) (x := y) h (by rw [e]; simp)
  rwa [Nat.mul_one] at this
set_option maxHeartbeats 3200000 in
theorem index_any (l : List (List UInt8)) (nm : List UInt8) (p : Option Addr) (c N : Nat) (w : World) (hl : RowIn N (StrAt w) 1 l p) :
    Calls Try.prog 113 #[.slice p l.length c, .string (str nm)] w fun z w' => (∃ i, z = .returned (.int .i64 i) ∧ IxIs (fun y => y == nm) l i) ∧ w = w' := by
  obtain ⟨b, o, hp, hb, ha⟩ := Row.start hl
  have hm := hl.1
  have HA := Lib.hid ha
  clear hl hb ha
  go_enter Try.func113, Try.ntmps113
  go_wp2_with fail
  go_loopw [8] (fun i wr => ∃ (d r : List (List UInt8)), i = .int .i64 d.length ∧ d.length + r.length = l.length ∧ Hid (l = d ++ r) ∧ Hid (d.all (fun y => !(y == nm)) = true) ∧ wr = w) (fun i _ => l.length - (intOf i).toNat)
  case atStart => exact ⟨[], l, rfl, by simp, Lib.hid rfl, Lib.hid rfl, rfl⟩
  case round =>
    obtain ⟨d, r, rfl, hd, hE, hF, rfl⟩ := hrel
    cases r with
    | nil =>
      simp only [List.length_nil] at hd
      have hge : ¬ d.length < l.length := by omega
      have HR := Lib.hid (show IxIs (fun y => y == nm) l (-1) from .inr ⟨rfl, by rw [hE.out, List.append_nil]; exact hF.out⟩)
      go_wp2_with fail
      go_ret
      exact ⟨⟨_, rfl, HR.out⟩, rfl⟩
    | cons y r =>
      simp only [List.length_cons] at hd
      have hlt : d.length < l.length := by omega
      rcases hp with h0 | rfl
      · omega
      have d0 := str_get HA.out hE.out
      have e1 := str_eqb nm y
      have HY := Lib.hid (show (nm == y) = true → IxIs (fun y => y == nm) l (d.length : Int) from fun h => .inl ⟨d.length, y, d, r, rfl, hE.out, rfl, by have := beq_iff_eq.1 h; simp [this], hF.out⟩)
      have HN' := Lib.hid (show (nm == y) = false → (d ++ [y]).all (fun y => !(y == nm)) = true from fun h => by rw [List.all_append, hF.out]; simp; intro e; rw [e] at h; simp at h)
      generalize (nm == y) = t at e1 HY HN'
      cases t with
      | true =>
        have HR1 := Lib.hid (HY.out rfl)
        clear HY HN'
        go_wp2_with fail
        go_ret
        exact ⟨⟨_, rfl, HR1.out⟩, rfl⟩
      | false =>
        have HR1 := Lib.hid (HN'.out rfl)
        clear HY HN'
        go_wp2_with fail
        go_roundw
        case rel => exact ⟨d ++ [y], r, by rw [List.length_append]; go_num, by simp; omega, Lib.hid (by rw [hE.out]; simp), HR1, trivial⟩
        case measure => simp [intOf]; omega
theorem contains_any (l : List (List UInt8)) (nm : List UInt8) (p : Option Addr) (c N : Nat) (w : World) (hl : RowIn N (StrAt w) 1 l p) :
    Calls Try.prog 100 #[.slice p l.length c, .string (str nm)] w fun z w' => z = .returned (.bool (l.any (fun y => y == nm))) ∧ w = w' := by
  have HC := Lib.hid (index_any l nm p c N w hl)
  clear hl
  go_enter Try.func100, Try.ntmps100
  go_wp2_with fail
  refine HC.out.mono ?_
  rintro z w1 ⟨⟨i, rfl, hi⟩, rfl⟩
  have HI := Lib.hid hi.any
  clear hi
  go_wp2_with fail
  go_ret
  exact ⟨ret_bool HI.out, rfl⟩
end Go.Proofs.Ytnghehcjklkoeaa
