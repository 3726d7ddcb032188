/- A6, A7, F1, A8, F2, F3, F4 as one. -/
import Derived.Lib.Join
import Derived.Test.YtlhbledakddbbaaGreatDoorQ4
import Derived.Lib.ItoaMem
import Derived.Lib.ItoaWalk
import Derived.Lib.Walk
import Derived.BigCall
import Derived.BigGuard
import Derived.Lib.Slices
import Derived.Laws.Concat
import Derived.Test.YtlhbledakddbbaaGreatDoorZaA
/- The text of a list of expressions. -/
namespace Go.Proofs.YtlhbledakddbbaaGreatDoor
open Go.RowKit

def Exs.ok : Exs → Bool
  | .nil => true
  | .cons x r => x.may && r.ok
theorem Exs.may_ok : ∀ l : Exs, l.may = l.ok
  | .nil => rfl
  | .cons x r => by rw [Exs.may, Exs.ok, Exs.may_ok r]
theorem join_len (ts : List (List UInt8)) (J T : List UInt8) (h : Lib.join ts [44, 32] = J ++ T) : J.length + T.length = (Lib.join ts [44, 32]).length := by rw [h, List.length_append]

set_option maxRecDepth 100000 in
set_option maxHeartbeats 6400000 in
theorem list_step (n : Nat) (ih : TellTo n) (l : Exs) (hls : l.size < n) (hm : l.may = true) (p : Option Addr) (c N B m : Nat) (v : Value) (bs : List UInt8) (w : World) (hN : N ≤ B) (hx : l.In w N p) (he : TEnv B m w) (hR : BRow B w bs v) (hl : bs.length + ([40] ++ Lib.join l.texts [44, 32] ++ [41]).length ≤ 1000000000) :
    Calls Tryz.prog 120 #[.agg #[.map (some m)], v, .slice p l.len c] w fun e w' => (∃ v', e = .returned v' ∧ BRow B w' (bs ++ ([40] ++ Lib.join l.texts [44, 32] ++ [41])) v') ∧ Fr B w w' := by
  obtain ⟨i0, hi, hz0, hz1, hz2⟩ := info_parts'
  simp only [List.length_append, List.length_cons, List.length_nil] at hl
  have IH := Lib.hid ih
  have HX := Lib.hid hx
  have HE := Lib.hid he
  have hbw := he.bw
  have HF1 := Lib.hid ((Fr.refl B w).alloc he.bw (.cells #[.map (some m)] 68))
  have HG1 := Lib.hid (heap_alloc_new w (.cells #[.map (some m)] 68))
  have HR1 : Hid (BRow B (w.alloc (.cells #[.map (some m)] 68)) bs v) := Lib.hid (hR.later ((Below.refl _ _).alloc (Nat.le_refl _) _))
  have hbw1 : B ≤ (w.alloc (.cells #[.map (some m)] 68)).heap.size := Nat.le_trans hbw (by simp)
  have HT1 := Lib.hid (show bs.length + 1 ≤ 1000000000 by omega)
  clear ih hx he hR
  go_enter Tryz.func120, Tryz.ntmps120
  have hown_ := HR1.out
  unfold BRow at hown_
  go_wp2_with (at_builtin; refine wpList_append_T _ rfl _ _ 83 rfl B 5 i0 Tryz.underlying83 hi hz0 hz1 hz2 _ _ _ rfl (hown_.alloc _) ⟨w.heap.size + 1, 0, none⟩ 1 1 [.int .u8 40] rfl rfl ?y1a ?y1b ?y1c ?y1d ?y1e ?_)
  case y1a => intro j u hj; match j, hj with
    | 0, hj => simp at hj; subst hj; simp [go_sem, Addr.add]
  case y1b => intro u hu; simp at hu; subst hu; rfl
  case y1c => have := HT1.out; unfold maxLen; omega
  case y1d => have := HT1.out; omega
  case y1e => exact Nat.le_trans hbw1 (by simp)
  intro v2 w2 hown hgrow
  have hap := brow_app (c := 40) HR1.out hbw1 hown hgrow
  have HR2 := Lib.hid hap.1
  have HF2a := Lib.hid hap.2
  clear hown hgrow hap hown_
  have HF2 := Lib.hid (HF1.out.trans HF2a.out)
  have HG2 := Lib.hid (HF2a.out.cell HG1.out (by decide))
  have HL := Lib.hid hl
  clear HT1 HR1 hbw1 HF2a hl
  go_wp2_with fail
  go_loopw [1, 13] (fun u i wr => ∃ (k : Nat) (r : Exs) (J : List UInt8) (v0 : Value), v0 = u ∧ i = .int .i64 k ∧ k + r.len = l.len ∧ r.size ≤ l.size ∧ Hid (r.ok = true) ∧ Hid ((k = 0 ∧ J = [] ∧ r = l) ∨ (0 < k ∧ Lib.join l.texts [44, 32] = J ++ Lib.joinTail [44, 32] r.texts)) ∧
      Hid (r.len = 0 ∨ ∃ b o, p = some ⟨b, o, none⟩ ∧ b < N ∧ r.At w N b (o + k * 4)) ∧ Hid (BRow B wr (bs ++ [40] ++ J) v0) ∧ Hid (Fr B w wr) ∧ Hid (wr.heap[w.heap.size]? = some (.cells #[.map (some m)] 68 (0, 0)))) (fun _ i _ => l.len - (intOf i).toNat)
  case atStart => exact ⟨0, l, [], _, rfl, rfl, by omega, Nat.le_refl _, Lib.hid (by rw [← Exs.may_ok]; exact hm), Lib.hid (.inl ⟨rfl, rfl, rfl⟩), Lib.hid (by
    rcases HX.out.2 with h | ⟨b, o, h1, h2, h3⟩
    · exact .inl h
    · exact .inr ⟨b, o, h1, h2, by rw [Nat.zero_mul]; exact h3⟩), Lib.hid (by rw [List.append_nil]; exact HR2.out), HF2, HG2⟩
  case round =>
    obtain ⟨k, r, J, u, rfl, rfl, hk, hrs, hok, hJ, hAt, hRow, hFr, hG⟩ := hrel
    have hbwr := Nat.le_trans hbw hFr.out.1.size
    cases r with
    | nil =>
      simp only [Exs.len] at hk
      have hge : ¬ k < l.len := by omega
      have HJ := Lib.hid (show J = Lib.join l.texts [44, 32] by
        rcases hJ.out with ⟨_, h2, h3⟩ | ⟨_, h2⟩
        · rw [h2, ← h3]; rfl
        · rw [h2, Exs.texts]; simp [Lib.joinTail])
      have HT3 := Lib.hid (show (bs ++ [40] ++ J).length + 1 ≤ 1000000000 by have := HL.out; rw [HJ.out]; simp only [List.length_append, List.length_cons, List.length_nil]; omega)
      have HRow := hRow
      obtain ⟨ly2, hly2⟩ : ∃ l, bs ++ [40] ++ J = l := ⟨_, rfl⟩
      have HLy2 := Lib.hid hly2
      rw [hly2] at HRow HT3
      clear hly2
      have hown_ := HRow.out
      unfold BRow at hown_
      go_wp2_with (at_builtin; refine wpList_append_T _ rfl _ _ 83 rfl B 5 i0 Tryz.underlying83 hi hz0 hz1 hz2 _ _ _ rfl (hown_.alloc _) ⟨wr.heap.size, 0, none⟩ 1 1 [.int .u8 41] rfl rfl ?y2a ?y2b ?y2c ?y2d ?y2e ?_)
      case y2a => intro j u hj; match j, hj with
        | 0, hj => simp at hj; subst hj; simp [go_sem, Addr.add]
      case y2b => intro u hu; simp at hu; subst hu; rfl
      case y2c => have := HT3.out; unfold maxLen; omega
      case y2d => have := HT3.out; omega
      case y2e => exact Nat.le_trans hbwr (by simp)
      intro v5 w5 hown hgrow
      have hap := brow_app (c := 41) HRow.out hbwr hown hgrow
      have HR5 := Lib.hid hap.1
      have HF5 := Lib.hid hap.2
      clear hown hgrow hap hown_
      rw [← HLy2.out] at HR5
      go_wp2_with fail
      go_ret
      exact ⟨⟨v5, rfl, by have h := HR5.out; rw [HJ.out] at h; simpa using h⟩, hFr.out.trans HF5.out⟩
    | cons x r =>
      simp only [Exs.len] at hk
      simp only [Exs.size] at hrs
      have hlt : k < l.len := by omega
      obtain ⟨b, o, rfl, hb, hxr⟩ : ∃ b o, p = some ⟨b, o, none⟩ ∧ b < N ∧ (Exs.cons x r).At w N b (o + k * 4) := by
        rcases hAt.out with h0 | h0
        · simp [Exs.len] at h0
        · exact h0
      have hmx : x.may = true ∧ r.ok = true := by have h := hok.out; rw [Exs.ok, Bool.and_eq_true] at h; exact h
      have HOk := Lib.hid hmx.2
      have HIH := Lib.hid (fun v bs w h1 h2 h3 h4 => IH.out x (by omega) hmx.1 b (o + k * 4) N B m v bs w hb hN h1 h2 h3 h4)
      have HXl := Lib.hid (fun w' (h : Fr B w w') => Ex.At.later (h.1.mono hN) (Nat.le_refl _) x b (o + k * 4) hb hxr.1)
      have HAt2 := Lib.hid (show r.len = 0 ∨ ∃ b' o', (some (⟨b, o, none⟩ : Addr)) = some ⟨b', o', none⟩ ∧ b' < N ∧ r.At w N b' (o' + (k + 1) * 4) from .inr ⟨b, o, rfl, hb, by rw [show o + (k + 1) * 4 = o + k * 4 + 4 by omega]; exact hxr.2⟩)
      clear hAt hxr hmx hok
      have i0' : (0 : Int) ≤ (k : Int) := by omega
      have i1' : (k : Int) < (l.len : Int) := by omega
      have HK := Lib.hid (show k + 1 + r.len = l.len ∧ k < l.len from ⟨by omega, hlt⟩)
      have hkb : k ≤ 140737488355328 := by have := HX.out.1; omega
      rcases Nat.eq_zero_or_pos k with hk0 | hkp
      · subst hk0
        have HJ := Lib.hid (show J = [] ∧ Lib.join l.texts [44, 32] = x.text ++ Lib.joinTail [44, 32] r.texts by
          rcases hJ.out with ⟨_, h2, h3⟩ | ⟨h2, _⟩
          · rw [← h3]; exact ⟨h2, Lib.join_cons _ _ _⟩
          · omega)
        have hRw := hRow.out
        rw [HJ.out.1, List.append_nil] at hRw
        have HRw := Lib.hid hRw
        have HL3 := Lib.hid (show (bs ++ [40]).length + x.text.length ≤ 1000000000 by have h := HL.out; rw [HJ.out.2, List.length_append] at h; simp only [List.length_append, List.length_cons, List.length_nil]; omega)
        have c2 := cell_of_one hG.out
        have HC := Lib.hid (HIH.out _ _ wr.drew (HXl.out _ hFr.out.drew) ((HE.out.later hFr.out.1).later (Below.refl _ _).drew) (hRw.later (Below.refl _ _).drew) HL3.out)
        have HN := Lib.hid (show Lib.join l.texts [44, 32] = x.text ++ Lib.joinTail [44, 32] r.texts from HJ.out.2)
        clear hRw hRow hJ HJ
        go_wp2_with fail
        go_region_held3 (fun W => W.cell? ⟨w.heap.size, 0, none⟩ = some (.map (some m)))
          (first | go_keep | assumption)
          (first
            | (go_at_call 80
               refine HC.out.mono ?_
               rintro e w4 ⟨⟨v4, rfl, hR4⟩, hF4⟩
               have hc4 : w4.cell? ⟨w.heap.size, 0, none⟩ = some (.map (some m)) := cell_of_one (hF4.cell (g := w.heap.size) (cs := #[.map (some m)]) (t := 68) (fz := (0, 0)) hG.out (by decide))))
        have HR4 := Lib.hid (show BRow B w4 (bs ++ [40] ++ x.text) v4 from hR4)
        have HF4 := Lib.hid (hFr.out.drew.trans hF4)
        have HG4 := Lib.hid (hF4.cell (g := w.heap.size) (cs := #[.map (some m)]) (t := 68) (fz := (0, 0)) hG.out (by decide))
        clear hR4 hF4 hc4
        go_wp2_with fail
        go_roundw
        case rel => exact ⟨1, r, x.text, v4, rfl, rfl, by omega, by omega, HOk, Lib.hid (.inr ⟨by omega, HN.out⟩), HAt2, HR4, HF4, HG4⟩
        case measure => simp [intOf]; omega
      · have hgt : (0 : Int) < (k : Int) := by omega
        have HN := Lib.hid (show Lib.join l.texts [44, 32] = J ++ [44, 32] ++ x.text ++ Lib.joinTail [44, 32] r.texts by
          rcases hJ.out with ⟨h2, _⟩ | ⟨_, h2⟩
          · omega
          · rw [h2, Exs.texts]; simp [Lib.joinTail])
        have HT4 := Lib.hid (show (bs ++ [40] ++ J).length + (⟨#[44, 32]⟩ : ByteArray).size ≤ 1000000000 by have h := HL.out; rw [HN.out] at h; simp only [List.length_append, List.length_cons, List.length_nil] at h ⊢; show _ + 2 ≤ _; omega)
        have HL3 := Lib.hid (show (bs ++ [40] ++ J ++ [44, 32]).length + x.text.length ≤ 1000000000 by have h := HL.out; rw [HN.out] at h; simp only [List.length_append, List.length_cons, List.length_nil] at h ⊢; omega)
        have HRow := hRow
        clear hJ
        obtain ⟨ly3, hly3⟩ : ∃ l, bs ++ [40] ++ J = l := ⟨_, rfl⟩
        have HLy3 := Lib.hid hly3
        rw [hly3] at HRow HT4
        clear hly3
        have hown_ := HRow.out
        unfold BRow at hown_
        go_wp2_with (at_builtin; refine wpList_append_str_T _ rfl _ _ 83 9 rfl B 5 i0 Tryz.underlying83 Tryz.underlying9 hi hz0 hz1 hz2 _ _ _ rfl hown_ ⟨#[44, 32]⟩ rfl ?y3c ?y3d ?y3e ?_)
        case y3c => have := HT4.out; unfold maxLen; omega
        case y3d => have := HT4.out; omega
        case y3e => exact hbwr
        intro v5 w5 hown hgrow
        have hap := brow_apps HRow.out hbwr hown hgrow
        have HR5 := Lib.hid hap.1
        have HF5a := Lib.hid hap.2
        clear hown hgrow hap hown_
        rw [← HLy3.out] at HR5
        have HR5' := Lib.hid (show BRow B w5 (bs ++ [40] ++ J ++ [44, 32]) v5 from HR5.out)
        have HF5 := Lib.hid (hFr.out.trans HF5a.out)
        have HG5 := Lib.hid (HF5a.out.cell hG.out (by decide))
        have c2 := cell_of_one HG5.out
        have HC := Lib.hid (HIH.out _ _ w5.drew (HXl.out _ HF5.out.drew) ((HE.out.later HF5.out.1).later (Below.refl _ _).drew) (HR5'.out.later (Below.refl _ _).drew) HL3.out)
        clear HF5a HR5 hRow
        go_wp2_with fail
        go_region_held3 (fun W => W.cell? ⟨w.heap.size, 0, none⟩ = some (.map (some m)))
          (first | go_keep | assumption)
          (first
            | (go_at_call 80
               refine HC.out.mono ?_
               rintro e w4 ⟨⟨v4, rfl, hR4⟩, hF4⟩
               have hc4 : w4.cell? ⟨w.heap.size, 0, none⟩ = some (.map (some m)) := cell_of_one (hF4.cell (g := w.heap.size) (cs := #[.map (some m)]) (t := 68) (fz := (0, 0)) HG5.out (by decide))))
        have HR4 := Lib.hid (show BRow B w4 (bs ++ [40] ++ (J ++ [44, 32] ++ x.text)) v4 by simpa only [List.append_assoc] using hR4)
        have HF4 := Lib.hid (HF5.out.drew.trans hF4)
        have HG4 := Lib.hid (hF4.cell (g := w.heap.size) (cs := #[.map (some m)]) (t := 68) (fz := (0, 0)) HG5.out (by decide))
        clear hR4 hF4 hc4
        go_wp2_with fail
        go_roundw
        case rel => exact ⟨k + 1, r, J ++ [44, 32] ++ x.text, v4, rfl, by go_num, HK.out.1, by omega, HOk, Lib.hid (.inr ⟨by omega, HN.out⟩), HAt2, HR4, HF4, HG4⟩
        case measure => have := HK.out.2; simp [intOf]; omega
end Go.Proofs.YtlhbledakddbbaaGreatDoor
/- The text of an expression: its walk. -/
namespace Go.Proofs.YtlhbledakddbbaaGreatDoor
open Go.RowKit

/-- an append of a text, behind a row -/
theorem step_str {B : Nat} {bs : List UInt8} {s : ByteArray} {ops : Array Oper} {o : Oper} {a : Act} {w : World} {K : Act → World → Prop} {Q : Exit → Act → World → Prop} {E : Prop} {v : Value}
    (hgd : o.guard = none) (sl x : Operand)
    (ho : o.op = .call { callee := .builtin .append, args := #[sl, x], argTypes := #[83, 9] })
    (hs : a.eval sl = v) (hR : BRow B w bs v) (hB : B ≤ w.heap.size) (hl : bs.length + s.size ≤ 1000000000)
    (hx : a.eval x = .string s)
    (h : ∀ v' w', BRow B w' (bs ++ s.data.toList) v' → Fr B w w' → K (a.put o.dst v') w') :
    if Region.wanted o (yielded ops a.tmps) = true then Oper.wp Tryz.prog o a w K Q else E := by
  obtain ⟨i0, hi, hz0, hz1, hz2⟩ := info_parts'
  have hw : Region.wanted o (yielded ops a.tmps) = true := by simp [Region.wanted, hgd]
  rw [if_pos hw]
  obtain ⟨v', w', hr, h2, h3⟩ := append_str_T (P := Tryz.prog) w B 83 9 o.type 5 i0 Tryz.underlying83 Tryz.underlying9 hi hz0 hz1 hz2 v bs.length (Lib.byteCells bs) hR s (by unfold maxLen; omega) (by omega) hB
  obtain ⟨h4, h5⟩ := brow_apps hR hB h2 h3
  unfold Oper.wp execOp
  simp only [ho, resolve, invoke, builtin, Sem.run_bind, Sem.run_pure, Result.andThen_ok, List.map_toArray, List.map_cons, List.map_nil, hs, hx, hr]
  exact h v' w' h4 h5

/-- the walk's facts -/
structure XF (B m N b o g : Nat) (op : Int) (wd : Nat) (nm : List UInt8) (p : Option Addr) (k c : Nat) (W : World) : Prop where
  te : W.heap[g]? = some (.cells #[.map (some m)] 68 (0, 0))
  c0 : W.cell? ⟨b, o, none⟩ = some (.int .i64 op)
  c1 : W.cell? ⟨b, o + 1, none⟩ = some (.int .u64 (wd : Int))
  c2 : W.cell? ⟨b, o + 2, none⟩ = some (.string (str nm))
  c3 : W.cell? ⟨b, o + 3, none⟩ = some (.slice p k c)
theorem XF.later {B m N b o g : Nat} {op : Int} {wd : Nat} {nm : List UInt8} {p : Option Addr} {k c : Nat} {W W' : World} (h : XF B m N b o g op wd nm p k c W) (hb : b < B) (hF : Fr B W W') : XF B m N b o g op wd nm p k c W' :=
  ⟨hF.cell h.te (by decide), (hF.1.cell (p := ⟨b, o, none⟩) hb).trans h.c0, (hF.1.cell (p := ⟨b, o + 1, none⟩) hb).trans h.c1, (hF.1.cell (p := ⟨b, o + 2, none⟩) hb).trans h.c2, (hF.1.cell (p := ⟨b, o + 3, none⟩) hb).trans h.c3⟩
theorem XF.S {B m N b o g : Nat} {op : Int} {wd : Nat} {nm : List UInt8} {p : Option Addr} {k c : Nat} {W : World} (h : XF B m N b o g op wd nm p k c W) : W.cell? ⟨g, 0, none⟩ = some (.map (some m)) ∧ W.cell? ⟨b, o, none⟩ = some (.int .i64 op) ∧ W.cell? ⟨b, o + 2, none⟩ = some (.string (str nm)) ∧ W.cell? ⟨b, o + 3, none⟩ = some (.slice p k c) :=
  ⟨cell_of_one h.te, h.c0, h.c2, h.c3⟩
theorem run_sign_field (s : ByteArray) (w : World) : (Instr.field 152 (.agg #[.string s]) 0).run Tryz.prog w = .ok (.string s) w := by first | kernel_rfl | simp [go_sem]
theorem Exs.two {l : Exs} (h : l.len = 2) : ∃ x y, l = .cons x (.cons y .nil) := by
  cases l with
  | nil => cases h
  | cons x r => cases r with
    | nil => cases h
    | cons y q => cases q with
      | nil => exact ⟨x, y, rfl⟩
      | cons z s => simp [Exs.len] at h
theorem Exs.one {l : Exs} (h : l.len = 1) : ∃ x, l = .cons x .nil := by
  cases l with
  | nil => cases h
  | cons x r => cases r with
    | nil => exact ⟨x, rfl⟩
    | cons y q => simp [Exs.len] at h
/-- where the arguments lie -/
theorem Exs.In.some' {w : World} {N : Nat} {l : Exs} {p : Option Addr} (h : l.In w N p) (h0 : 0 < l.len) : ∃ b o, p = some ⟨b, o, none⟩ ∧ b < N ∧ l.At w N b o := by
  rcases h.2 with h | h
  · omega
  · exact h

set_option maxRecDepth 100000 in
set_option maxHeartbeats 3200000 in
theorem expr_const (b o N B m : Nat) (v : Value) (bs : List UInt8) (w : World) (hb : b < N) (hN : N ≤ B) (he : TEnv B m w) (hR : BRow B w bs v) (wd : Nat) (nm : List UInt8) (p : Option Addr) (k c : Nat) (hw : wd < 18446744073709551616)
    (hc : w.cell? ⟨b, o, none⟩ = some (.int .i64 1) ∧ w.cell? ⟨b, o + 1, none⟩ = some (.int .u64 (wd : Int)) ∧ w.cell? ⟨b, o + 2, none⟩ = some (.string (str nm)) ∧ w.cell? ⟨b, o + 3, none⟩ = some (.slice p k c))
    (hl : bs.length + (Lib.decDigits wd).length ≤ 1000000000) :
    Calls Tryz.prog 80 #[.agg #[.map (some m)], v, .pointer (some ⟨b, o, none⟩)] w fun e w' => (∃ v', e = .returned v' ∧ BRow B w' (bs ++ (Lib.decDigits wd)) v') ∧ Fr B w w' := by
  obtain ⟨i0, hi, hz0, hz1, hz2⟩ := info_parts'
  have hbw := he.bw
  have hbB : b < B := by omega
  have HF1 := Lib.hid ((Fr.refl B w).alloc hbw (.cells #[.map (some m)] 68))
  have HR1 : Hid (BRow B (w.alloc (.cells #[.map (some m)] 68)) bs v) := Lib.hid (hR.later ((Below.refl _ _).alloc (Nat.le_refl _) _))
  have hbw1 : B ≤ (w.alloc (.cells #[.map (some m)] 68)).heap.size := Nat.le_trans hbw (by simp)
  have HE := Lib.hid he
  have HX1 : Hid (XF B m N b o w.heap.size (1) wd nm p k c (w.alloc (.cells #[.map (some m)] 68))) := Lib.hid
    ⟨heap_alloc_new w _, (HF1.out.1.cell (p := ⟨b, o, none⟩) hbB).trans hc.1, (HF1.out.1.cell (p := ⟨b, o + 1, none⟩) hbB).trans hc.2.1, (HF1.out.1.cell (p := ⟨b, o + 2, none⟩) hbB).trans hc.2.2.1, (HF1.out.1.cell (p := ⟨b, o + 3, none⟩) hbB).trans hc.2.2.2⟩
  obtain ⟨h0, h1, h2, h3⟩ := hc
  have hbz : b < w.heap.size := by omega
  clear hR he
  have HC := Lib.hid (appendUint_any B wd bs v m _ hw HR1.out (HE.out.later HF1.out.1) (by omega))
  clear HR1
  go_enter Tryz.func80, Tryz.ntmps80
  go_wp2_with fail
  refine HC.out.mono ?_
  rintro e w2 ⟨⟨v2, rfl, hR2⟩, hF2⟩
  have HR2 := Lib.hid hR2
  have HF2 := Lib.hid (HF1.out.trans hF2)
  clear hR2 hF2
  go_wp2_with fail
  go_ret
  exact ⟨⟨v2, rfl, HR2.out⟩, HF2.out⟩

set_option maxRecDepth 100000 in
set_option maxHeartbeats 3200000 in
theorem expr_var (b o N B m : Nat) (v : Value) (bs : List UInt8) (w : World) (hb : b < N) (hN : N ≤ B) (he : TEnv B m w) (hR : BRow B w bs v) (wd : Nat) (nm : List UInt8) (p : Option Addr) (k c : Nat) 
    (hc : w.cell? ⟨b, o, none⟩ = some (.int .i64 2) ∧ w.cell? ⟨b, o + 1, none⟩ = some (.int .u64 (wd : Int)) ∧ w.cell? ⟨b, o + 2, none⟩ = some (.string (str nm)) ∧ w.cell? ⟨b, o + 3, none⟩ = some (.slice p k c))
    (hl : bs.length + (nm).length ≤ 1000000000) :
    Calls Tryz.prog 80 #[.agg #[.map (some m)], v, .pointer (some ⟨b, o, none⟩)] w fun e w' => (∃ v', e = .returned v' ∧ BRow B w' (bs ++ (nm)) v') ∧ Fr B w w' := by
  obtain ⟨i0, hi, hz0, hz1, hz2⟩ := info_parts'
  have hbw := he.bw
  have hbB : b < B := by omega
  have HF1 := Lib.hid ((Fr.refl B w).alloc hbw (.cells #[.map (some m)] 68))
  have HR1 : Hid (BRow B (w.alloc (.cells #[.map (some m)] 68)) bs v) := Lib.hid (hR.later ((Below.refl _ _).alloc (Nat.le_refl _) _))
  have hbw1 : B ≤ (w.alloc (.cells #[.map (some m)] 68)).heap.size := Nat.le_trans hbw (by simp)
  have HE := Lib.hid he
  have HX1 : Hid (XF B m N b o w.heap.size (2) wd nm p k c (w.alloc (.cells #[.map (some m)] 68))) := Lib.hid
    ⟨heap_alloc_new w _, (HF1.out.1.cell (p := ⟨b, o, none⟩) hbB).trans hc.1, (HF1.out.1.cell (p := ⟨b, o + 1, none⟩) hbB).trans hc.2.1, (HF1.out.1.cell (p := ⟨b, o + 2, none⟩) hbB).trans hc.2.2.1, (HF1.out.1.cell (p := ⟨b, o + 3, none⟩) hbB).trans hc.2.2.2⟩
  obtain ⟨h0, h1, h2, h3⟩ := hc
  have hbz : b < w.heap.size := by omega
  clear hR he
  have HT := Lib.hid (show bs.length + (str nm).size ≤ 1000000000 by rw [size_str]; exact hl)
  go_enter Tryz.func80, Tryz.ntmps80
  have hown_ := HR1.out
  unfold BRow at hown_
  go_wp2_with (at_builtin; refine wpList_append_str_T _ rfl _ _ 83 9 rfl B 5 i0 Tryz.underlying83 Tryz.underlying9 hi hz0 hz1 hz2 _ _ _ rfl hown_ (str nm) rfl ?y1c ?y1d ?y1e ?_)
  case y1c => have := HT.out; unfold maxLen; omega
  case y1d => have := HT.out; omega
  case y1e => exact hbw1
  intro v2 w2 hown hgrow
  have hap := brow_apps HR1.out hbw1 hown hgrow
  have HR2 := Lib.hid hap.1
  have HF2 := Lib.hid hap.2
  clear hown hgrow hap hown_
  go_wp2_with fail
  go_ret
  exact ⟨⟨v2, rfl, HR2.out⟩, HF1.out.trans HF2.out⟩

set_option maxRecDepth 100000 in
set_option maxHeartbeats 3200000 in
theorem expr_index (b o N B m : Nat) (v : Value) (bs : List UInt8) (w : World) (hb : b < N) (hN : N ≤ B) (he : TEnv B m w) (hR : BRow B w bs v) (wd : Nat) (nm : List UInt8) (p : Option Addr) (k c : Nat) (n : Nat) (ih : TellTo n) (x : Ex) (hxs : x.size < n) (hm : x.may = true) (hk : k = 1) (hsub : ∃ b2 o2, p = some ⟨b2, o2, none⟩ ∧ b2 < N ∧ x.At w N b2 o2)
    (hc : w.cell? ⟨b, o, none⟩ = some (.int .i64 3) ∧ w.cell? ⟨b, o + 1, none⟩ = some (.int .u64 (wd : Int)) ∧ w.cell? ⟨b, o + 2, none⟩ = some (.string (str nm)) ∧ w.cell? ⟨b, o + 3, none⟩ = some (.slice p k c))
    (hl : bs.length + (nm ++ [91] ++ x.text ++ [93]).length ≤ 1000000000) :
    Calls Tryz.prog 80 #[.agg #[.map (some m)], v, .pointer (some ⟨b, o, none⟩)] w fun e w' => (∃ v', e = .returned v' ∧ BRow B w' (bs ++ (nm ++ [91] ++ x.text ++ [93])) v') ∧ Fr B w w' := by
  obtain ⟨i0, hi, hz0, hz1, hz2⟩ := info_parts'
  have hbw := he.bw
  have hbB : b < B := by omega
  have HF1 := Lib.hid ((Fr.refl B w).alloc hbw (.cells #[.map (some m)] 68))
  have HR1 : Hid (BRow B (w.alloc (.cells #[.map (some m)] 68)) bs v) := Lib.hid (hR.later ((Below.refl _ _).alloc (Nat.le_refl _) _))
  have hbw1 : B ≤ (w.alloc (.cells #[.map (some m)] 68)).heap.size := Nat.le_trans hbw (by simp)
  have HE := Lib.hid he
  have HX1 : Hid (XF B m N b o w.heap.size (3) wd nm p k c (w.alloc (.cells #[.map (some m)] 68))) := Lib.hid
    ⟨heap_alloc_new w _, (HF1.out.1.cell (p := ⟨b, o, none⟩) hbB).trans hc.1, (HF1.out.1.cell (p := ⟨b, o + 1, none⟩) hbB).trans hc.2.1, (HF1.out.1.cell (p := ⟨b, o + 2, none⟩) hbB).trans hc.2.2.1, (HF1.out.1.cell (p := ⟨b, o + 3, none⟩) hbB).trans hc.2.2.2⟩
  obtain ⟨h0, h1, h2, h3⟩ := hc
  have hbz : b < w.heap.size := by omega
  clear hR he
  obtain ⟨b2, o2, rfl, hb2, hx2⟩ : ∃ b2 o2, p = some ⟨b2, o2, none⟩ ∧ b2 < N ∧ x.At w N b2 o2 := hsub
  have hk0 : 0 < k := by omega
  have HC := Lib.hid (place_step n ih x hxs hm nm b2 o2 N B m v bs _ hb2 hN (Ex.At.later (HF1.out.drew.1.mono hN) (Nat.le_refl _) x b2 o2 hb2 hx2) (HE.out.later HF1.out.drew.1) (HR1.out.later (Below.refl _ _).drew) hl)
  clear HR1 ih hx2
  subst hk
  go_enter Tryz.func80, Tryz.ntmps80
  go_wp2_with fail
  go_region_held3 (fun W => W.cell? ⟨w.heap.size, 0, none⟩ = some (.map (some m)) ∧ W.cell? ⟨b, o, none⟩ = some (.int .i64 3) ∧ W.cell? ⟨b, o + 2, none⟩ = some (.string (str nm)) ∧ W.cell? ⟨b, o + 3, none⟩ = some (.slice (some ⟨b2, o2, none⟩) 1 c))
    (first | go_keep | assumption | exact HX1.out.S | exact (HX1.out.later hbB ((Fr.refl _ _).drew)).S)
    (first
      | (go_at_call 119
         refine HC.out.mono ?_
         rintro e w4 ⟨⟨v4, rfl, hR4⟩, hF4⟩
         have hS4 := ((HX1.out.later hbB ((Fr.refl _ _).drew)).later hbB hF4).S))
  have HR4 := Lib.hid hR4
  have HF4 := Lib.hid (HF1.out.drew.trans hF4)
  clear hR4 hF4 hS4
  go_wp2_with fail
  go_ret
  exact ⟨⟨v4, rfl, HR4.out⟩, HF4.out⟩

set_option maxRecDepth 100000 in
set_option maxHeartbeats 3200000 in
theorem expr_not (b o N B m : Nat) (v : Value) (bs : List UInt8) (w : World) (hb : b < N) (hN : N ≤ B) (he : TEnv B m w) (hR : BRow B w bs v) (wd : Nat) (nm : List UInt8) (p : Option Addr) (k c : Nat) (n : Nat) (ih : TellTo n) (x : Ex) (hxs : x.size < n) (hm : x.may = true) (hk : k = 1) (hsub : ∃ b2 o2, p = some ⟨b2, o2, none⟩ ∧ b2 < N ∧ x.At w N b2 o2)
    (hc : w.cell? ⟨b, o, none⟩ = some (.int .i64 4) ∧ w.cell? ⟨b, o + 1, none⟩ = some (.int .u64 (wd : Int)) ∧ w.cell? ⟨b, o + 2, none⟩ = some (.string (str nm)) ∧ w.cell? ⟨b, o + 3, none⟩ = some (.slice p k c))
    (hl : bs.length + ([126] ++ x.text).length ≤ 1000000000) :
    Calls Tryz.prog 80 #[.agg #[.map (some m)], v, .pointer (some ⟨b, o, none⟩)] w fun e w' => (∃ v', e = .returned v' ∧ BRow B w' (bs ++ ([126] ++ x.text)) v') ∧ Fr B w w' := by
  obtain ⟨i0, hi, hz0, hz1, hz2⟩ := info_parts'
  have hbw := he.bw
  have hbB : b < B := by omega
  have HF1 := Lib.hid ((Fr.refl B w).alloc hbw (.cells #[.map (some m)] 68))
  have HR1 : Hid (BRow B (w.alloc (.cells #[.map (some m)] 68)) bs v) := Lib.hid (hR.later ((Below.refl _ _).alloc (Nat.le_refl _) _))
  have hbw1 : B ≤ (w.alloc (.cells #[.map (some m)] 68)).heap.size := Nat.le_trans hbw (by simp)
  have HE := Lib.hid he
  have HX1 : Hid (XF B m N b o w.heap.size (4) wd nm p k c (w.alloc (.cells #[.map (some m)] 68))) := Lib.hid
    ⟨heap_alloc_new w _, (HF1.out.1.cell (p := ⟨b, o, none⟩) hbB).trans hc.1, (HF1.out.1.cell (p := ⟨b, o + 1, none⟩) hbB).trans hc.2.1, (HF1.out.1.cell (p := ⟨b, o + 2, none⟩) hbB).trans hc.2.2.1, (HF1.out.1.cell (p := ⟨b, o + 3, none⟩) hbB).trans hc.2.2.2⟩
  obtain ⟨h0, h1, h2, h3⟩ := hc
  have hbz : b < w.heap.size := by omega
  clear hR he
  obtain ⟨b2, o2, rfl, hb2, hx2⟩ : ∃ b2 o2, p = some ⟨b2, o2, none⟩ ∧ b2 < N ∧ x.At w N b2 o2 := hsub
  have hk0 : 0 < k := by omega
  have HIH := Lib.hid (fun v bs w h1 h2 h3 h4 => ih x hxs hm b2 o2 N B m v bs w hb2 hN h1 h2 h3 h4)
  have HXl := Lib.hid (fun w' (h : Fr B w w') => Ex.At.later (h.1.mono hN) (Nat.le_refl _) x b2 o2 hb2 hx2)
  have HL2 := Lib.hid (show (bs ++ [126]).length + x.text.length ≤ 1000000000 by simp only [List.length_append, List.length_cons, List.length_nil] at hl ⊢; omega)
  have HL1 := Lib.hid (show bs.length ≤ 1000000000 by omega)
  clear ih hx2
  subst hk
  go_enter Tryz.func80, Tryz.ntmps80
  go_wp2_with fail
  obtain ⟨w1, hw1⟩ : ∃ w1, w.alloc (.cells #[.map (some m)] 68) = w1 := ⟨_, rfl⟩
  rw [hw1] at HR1 HX1 HF1 hbw1 ⊢
  clear hw1 h0 h1 h2 h3
  obtain ⟨z0, z1, z2, z3⟩ := HX1.out.S
  go_region_held3 (fun W => W.cell? ⟨w.heap.size, 0, none⟩ = some (.map (some m)) ∧ W.cell? ⟨b, o, none⟩ = some (.int .i64 4) ∧ W.cell? ⟨b, o + 2, none⟩ = some (.string (str nm)) ∧ W.cell? ⟨b, o + 3, none⟩ = some (.slice (some ⟨b2, o2, none⟩) 1 c))
    (first | go_keep | assumption | exact HX1.out.S | exact (HX1.out.later hbB ((Fr.refl _ _).drew)).S)
    (first
      | (refine step_byte (B := B) (bs := bs) (c := 126) (w := w1.drew) rfl (.tmp 44) (.tmp 45) rfl (by rfl) (HR1.out.later (Below.refl _ _).drew) hbw1 HL1.out (by rfl) ?_
         intro v3 w3 hR3 hF3
         have HF3 := Lib.hid (HF1.out.drew.trans hF3)
         have HX3 := Lib.hid ((HX1.out.later hbB ((Fr.refl _ _).drew)).later hbB hF3)
         have hS3 := HX3.out.S)
      | (go_at_call 80
         refine (HIH.out _ _ _ (HXl.out _ HF3.out) (HE.out.later HF3.out.1) hR3 HL2.out).mono ?_
         rintro e w4 ⟨⟨v4, rfl, hR4⟩, hF4⟩
         have hS4 := (HX3.out.later hbB hF4).S))
  have HR4 := Lib.hid hR4
  have HF4 := Lib.hid (HF3.out.trans hF4)
  clear hR4 hF4 hS4 hR3 hF3 hS3
  go_wp2_with fail
  go_ret
  exact ⟨⟨v4, rfl, by have h := HR4.out; simpa using h⟩, HF4.out⟩

set_option maxRecDepth 100000 in
set_option maxHeartbeats 3200000 in
theorem expr_neg (b o N B m : Nat) (v : Value) (bs : List UInt8) (w : World) (hb : b < N) (hN : N ≤ B) (he : TEnv B m w) (hR : BRow B w bs v) (wd : Nat) (nm : List UInt8) (p : Option Addr) (k c : Nat) (n : Nat) (ih : TellTo n) (x : Ex) (hxs : x.size < n) (hm : x.may = true) (hk : k = 1) (hsub : ∃ b2 o2, p = some ⟨b2, o2, none⟩ ∧ b2 < N ∧ x.At w N b2 o2)
    (hc : w.cell? ⟨b, o, none⟩ = some (.int .i64 5) ∧ w.cell? ⟨b, o + 1, none⟩ = some (.int .u64 (wd : Int)) ∧ w.cell? ⟨b, o + 2, none⟩ = some (.string (str nm)) ∧ w.cell? ⟨b, o + 3, none⟩ = some (.slice p k c))
    (hl : bs.length + ([45] ++ x.text).length ≤ 1000000000) :
    Calls Tryz.prog 80 #[.agg #[.map (some m)], v, .pointer (some ⟨b, o, none⟩)] w fun e w' => (∃ v', e = .returned v' ∧ BRow B w' (bs ++ ([45] ++ x.text)) v') ∧ Fr B w w' := by
  obtain ⟨i0, hi, hz0, hz1, hz2⟩ := info_parts'
  have hbw := he.bw
  have hbB : b < B := by omega
  have HF1 := Lib.hid ((Fr.refl B w).alloc hbw (.cells #[.map (some m)] 68))
  have HR1 : Hid (BRow B (w.alloc (.cells #[.map (some m)] 68)) bs v) := Lib.hid (hR.later ((Below.refl _ _).alloc (Nat.le_refl _) _))
  have hbw1 : B ≤ (w.alloc (.cells #[.map (some m)] 68)).heap.size := Nat.le_trans hbw (by simp)
  have HE := Lib.hid he
  have HX1 : Hid (XF B m N b o w.heap.size (5) wd nm p k c (w.alloc (.cells #[.map (some m)] 68))) := Lib.hid
    ⟨heap_alloc_new w _, (HF1.out.1.cell (p := ⟨b, o, none⟩) hbB).trans hc.1, (HF1.out.1.cell (p := ⟨b, o + 1, none⟩) hbB).trans hc.2.1, (HF1.out.1.cell (p := ⟨b, o + 2, none⟩) hbB).trans hc.2.2.1, (HF1.out.1.cell (p := ⟨b, o + 3, none⟩) hbB).trans hc.2.2.2⟩
  obtain ⟨h0, h1, h2, h3⟩ := hc
  have hbz : b < w.heap.size := by omega
  clear hR he
  obtain ⟨b2, o2, rfl, hb2, hx2⟩ : ∃ b2 o2, p = some ⟨b2, o2, none⟩ ∧ b2 < N ∧ x.At w N b2 o2 := hsub
  have hk0 : 0 < k := by omega
  have HIH := Lib.hid (fun v bs w h1 h2 h3 h4 => ih x hxs hm b2 o2 N B m v bs w hb2 hN h1 h2 h3 h4)
  have HXl := Lib.hid (fun w' (h : Fr B w w') => Ex.At.later (h.1.mono hN) (Nat.le_refl _) x b2 o2 hb2 hx2)
  have HL2 := Lib.hid (show (bs ++ [45]).length + x.text.length ≤ 1000000000 by simp only [List.length_append, List.length_cons, List.length_nil] at hl ⊢; omega)
  have HL1 := Lib.hid (show bs.length ≤ 1000000000 by omega)
  clear ih hx2
  subst hk
  go_enter Tryz.func80, Tryz.ntmps80
  go_wp2_with fail
  obtain ⟨w1, hw1⟩ : ∃ w1, w.alloc (.cells #[.map (some m)] 68) = w1 := ⟨_, rfl⟩
  rw [hw1] at HR1 HX1 HF1 hbw1 ⊢
  clear hw1 h0 h1 h2 h3
  obtain ⟨z0, z1, z2, z3⟩ := HX1.out.S
  go_region_held3 (fun W => W.cell? ⟨w.heap.size, 0, none⟩ = some (.map (some m)) ∧ W.cell? ⟨b, o, none⟩ = some (.int .i64 5) ∧ W.cell? ⟨b, o + 2, none⟩ = some (.string (str nm)) ∧ W.cell? ⟨b, o + 3, none⟩ = some (.slice (some ⟨b2, o2, none⟩) 1 c))
    (first | go_keep | assumption | exact HX1.out.S | exact (HX1.out.later hbB ((Fr.refl _ _).drew)).S)
    (first
      | (refine step_byte (B := B) (bs := bs) (c := 45) (w := w1.drew) rfl (.tmp 56) (.tmp 57) rfl (by rfl) (HR1.out.later (Below.refl _ _).drew) hbw1 HL1.out (by rfl) ?_
         intro v3 w3 hR3 hF3
         have HF3 := Lib.hid (HF1.out.drew.trans hF3)
         have HX3 := Lib.hid ((HX1.out.later hbB ((Fr.refl _ _).drew)).later hbB hF3)
         have hS3 := HX3.out.S)
      | (go_at_call 80
         refine (HIH.out _ _ _ (HXl.out _ HF3.out) (HE.out.later HF3.out.1) hR3 HL2.out).mono ?_
         rintro e w4 ⟨⟨v4, rfl, hR4⟩, hF4⟩
         have hS4 := (HX3.out.later hbB hF4).S))
  have HR4 := Lib.hid hR4
  have HF4 := Lib.hid (HF3.out.trans hF4)
  clear hR4 hF4 hS4 hR3 hF3 hS3
  go_wp2_with fail
  go_ret
  exact ⟨⟨v4, rfl, by have h := HR4.out; simpa using h⟩, HF4.out⟩

set_option maxRecDepth 100000 in
set_option maxHeartbeats 3200000 in
theorem expr_pick (b o N B m : Nat) (v : Value) (bs : List UInt8) (w : World) (hb : b < N) (hN : N ≤ B) (he : TEnv B m w) (hR : BRow B w bs v) (wd : Nat) (nm : List UInt8) (p : Option Addr) (k c : Nat) (n : Nat) (ih : TellTo n) (l : Exs) (hls : l.size < n) (hm : l.may = true) (hk : k = l.len) (hin : l.In w N p)
    (hc : w.cell? ⟨b, o, none⟩ = some (.int .i64 21) ∧ w.cell? ⟨b, o + 1, none⟩ = some (.int .u64 (wd : Int)) ∧ w.cell? ⟨b, o + 2, none⟩ = some (.string (str nm)) ∧ w.cell? ⟨b, o + 3, none⟩ = some (.slice p k c))
    (hl : bs.length + ([112, 105, 99, 107] ++ [40] ++ Lib.join l.texts [44, 32] ++ [41]).length ≤ 1000000000) :
    Calls Tryz.prog 80 #[.agg #[.map (some m)], v, .pointer (some ⟨b, o, none⟩)] w fun e w' => (∃ v', e = .returned v' ∧ BRow B w' (bs ++ ([112, 105, 99, 107] ++ [40] ++ Lib.join l.texts [44, 32] ++ [41])) v') ∧ Fr B w w' := by
  obtain ⟨i0, hi, hz0, hz1, hz2⟩ := info_parts'
  have hbw := he.bw
  have hbB : b < B := by omega
  have HF1 := Lib.hid ((Fr.refl B w).alloc hbw (.cells #[.map (some m)] 68))
  have HR1 : Hid (BRow B (w.alloc (.cells #[.map (some m)] 68)) bs v) := Lib.hid (hR.later ((Below.refl _ _).alloc (Nat.le_refl _) _))
  have hbw1 : B ≤ (w.alloc (.cells #[.map (some m)] 68)).heap.size := Nat.le_trans hbw (by simp)
  have HE := Lib.hid he
  have HX1 : Hid (XF B m N b o w.heap.size (21) wd nm p k c (w.alloc (.cells #[.map (some m)] 68))) := Lib.hid
    ⟨heap_alloc_new w _, (HF1.out.1.cell (p := ⟨b, o, none⟩) hbB).trans hc.1, (HF1.out.1.cell (p := ⟨b, o + 1, none⟩) hbB).trans hc.2.1, (HF1.out.1.cell (p := ⟨b, o + 2, none⟩) hbB).trans hc.2.2.1, (HF1.out.1.cell (p := ⟨b, o + 3, none⟩) hbB).trans hc.2.2.2⟩
  obtain ⟨h0, h1, h2, h3⟩ := hc
  have hbz : b < w.heap.size := by omega
  clear hR he
  have HIH := Lib.hid (fun v bs w h1 h2 h3 h4 => list_step n ih l hls hm p c N B m v bs w hN h1 h2 h3 h4)
  have HXl := Lib.hid (fun w' (h : Fr B w w') => hin.later (h.1.mono hN) (Nat.le_refl _))
  have HL2 := Lib.hid (show (bs ++ [112, 105, 99, 107]).length + ([40] ++ Lib.join l.texts [44, 32] ++ [41]).length ≤ 1000000000 by simp only [List.length_append, List.length_cons, List.length_nil] at hl ⊢; omega)
  have HL1 := Lib.hid (show bs.length + (⟨#[112, 105, 99, 107]⟩ : ByteArray).size ≤ 1000000000 by simp only [List.length_append, List.length_cons, List.length_nil] at hl; show bs.length + 4 ≤ _; omega)
  clear ih hin
  subst hk
  go_enter Tryz.func80, Tryz.ntmps80
  go_wp2_with fail
  obtain ⟨w1, hw1⟩ : ∃ w1, w.alloc (.cells #[.map (some m)] 68) = w1 := ⟨_, rfl⟩
  rw [hw1] at HR1 HX1 HF1 hbw1 ⊢
  clear hw1 h0 h1 h2 h3
  obtain ⟨z0, z1, z2, z3⟩ := HX1.out.S
  go_region_held3 (fun W => W.cell? ⟨w.heap.size, 0, none⟩ = some (.map (some m)) ∧ W.cell? ⟨b, o, none⟩ = some (.int .i64 21) ∧ W.cell? ⟨b, o + 2, none⟩ = some (.string (str nm)) ∧ W.cell? ⟨b, o + 3, none⟩ = some (.slice p l.len c))
    (first | go_keep | assumption)
    (first
      | (refine step_str (B := B) (bs := bs) (s := ⟨#[112, 105, 99, 107]⟩) (w := w1.drew) rfl (.tmp 68) (.const (.string ⟨#[112, 105, 99, 107]⟩)) rfl (by rfl) (HR1.out.later (Below.refl _ _).drew) hbw1 HL1.out (by rfl) ?_
         intro v3 w3 hR3 hF3
         have HF3 := Lib.hid (HF1.out.drew.trans hF3)
         have HX3 := Lib.hid ((HX1.out.later hbB ((Fr.refl _ _).drew)).later hbB hF3)
         have hS3 := HX3.out.S)
      | (go_at_call 120
         refine (HIH.out _ _ _ (HXl.out _ HF3.out) (HE.out.later HF3.out.1) hR3 HL2.out).mono ?_
         rintro e w4 ⟨⟨v4, rfl, hR4⟩, hF4⟩
         have hS4 := (HX3.out.later hbB hF4).S))
  have HR4 := Lib.hid hR4
  have HF4 := Lib.hid (HF3.out.trans hF4)
  clear hR4 hF4 hS4 hR3 hF3 hS3
  go_wp2_with fail
  go_ret
  exact ⟨⟨v4, rfl, by have h := HR4.out; simpa using h⟩, HF4.out⟩

set_option maxRecDepth 100000 in
set_option maxHeartbeats 3200000 in
theorem expr_two (b o N B m : Nat) (v : Value) (bs : List UInt8) (w : World) (hb : b < N) (hN : N ≤ B) (he : TEnv B m w) (hR : BRow B w bs v) (wd : Nat) (nm : List UInt8) (p : Option Addr) (k c : Nat) (n : Nat) (ih : TellTo n) (x y : Ex) (hxs : x.size < n) (hmx : x.may = true) (hys : y.size < n) (hmy : y.may = true) (op : Int) (ho : 6 ≤ op ∧ op ≤ 20) (hk : k = 2) (hsub : ∃ b2 o2, p = some ⟨b2, o2, none⟩ ∧ b2 < N ∧ x.At w N b2 o2 ∧ y.At w N b2 (o2 + 4))
    (hc : w.cell? ⟨b, o, none⟩ = some (.int .i64 op) ∧ w.cell? ⟨b, o + 1, none⟩ = some (.int .u64 (wd : Int)) ∧ w.cell? ⟨b, o + 2, none⟩ = some (.string (str nm)) ∧ w.cell? ⟨b, o + 3, none⟩ = some (.slice p k c))
    (hl : bs.length + ([40] ++ x.text ++ [32] ++ signOf op ++ [32] ++ y.text ++ [41]).length ≤ 1000000000) :
    Calls Tryz.prog 80 #[.agg #[.map (some m)], v, .pointer (some ⟨b, o, none⟩)] w fun e w' => (∃ v', e = .returned v' ∧ BRow B w' (bs ++ ([40] ++ x.text ++ [32] ++ signOf op ++ [32] ++ y.text ++ [41])) v') ∧ Fr B w w' := by
  obtain ⟨i0, hi, hz0, hz1, hz2⟩ := info_parts'
  have hbw := he.bw
  have hbB : b < B := by omega
  have HF1 := Lib.hid ((Fr.refl B w).alloc hbw (.cells #[.map (some m)] 68))
  have HR1 : Hid (BRow B (w.alloc (.cells #[.map (some m)] 68)) bs v) := Lib.hid (hR.later ((Below.refl _ _).alloc (Nat.le_refl _) _))
  have hbw1 : B ≤ (w.alloc (.cells #[.map (some m)] 68)).heap.size := Nat.le_trans hbw (by simp)
  have HE := Lib.hid he
  have HX1 : Hid (XF B m N b o w.heap.size (op) wd nm p k c (w.alloc (.cells #[.map (some m)] 68))) := Lib.hid
    ⟨heap_alloc_new w _, (HF1.out.1.cell (p := ⟨b, o, none⟩) hbB).trans hc.1, (HF1.out.1.cell (p := ⟨b, o + 1, none⟩) hbB).trans hc.2.1, (HF1.out.1.cell (p := ⟨b, o + 2, none⟩) hbB).trans hc.2.2.1, (HF1.out.1.cell (p := ⟨b, o + 3, none⟩) hbB).trans hc.2.2.2⟩
  obtain ⟨h0, h1, h2, h3⟩ := hc
  have hbz : b < w.heap.size := by omega
  clear hR he
  obtain ⟨b2, o2, rfl, hb2, hx2, hy2⟩ : ∃ b2 o2, p = some ⟨b2, o2, none⟩ ∧ b2 < N ∧ x.At w N b2 o2 ∧ y.At w N b2 (o2 + 4) := hsub
  have HIX := Lib.hid (fun v bs w h1 h2 h3 h4 => ih x hxs hmx b2 o2 N B m v bs w hb2 hN h1 h2 h3 h4)
  have HIY := Lib.hid (fun v bs w h1 h2 h3 h4 => ih y hys hmy b2 (o2 + 4) N B m v bs w hb2 hN h1 h2 h3 h4)
  have HXx := Lib.hid (fun w' (h : Fr B w w') => Ex.At.later (h.1.mono hN) (Nat.le_refl _) x b2 o2 hb2 hx2)
  have HXy := Lib.hid (fun w' (h : Fr B w w') => Ex.At.later (h.1.mono hN) (Nat.le_refl _) y b2 (o2 + 4) hb2 hy2)
  simp only [List.length_append, List.length_cons, List.length_nil] at hl
  have HL1 := Lib.hid (show bs.length ≤ 1000000000 by omega)
  have HL2 := Lib.hid (show (bs ++ [40]).length + x.text.length ≤ 1000000000 by simp only [List.length_append, List.length_cons, List.length_nil]; omega)
  have HL3 := Lib.hid (show (bs ++ [40] ++ x.text).length + 1 ≤ 1000000000 by simp only [List.length_append, List.length_cons, List.length_nil]; omega)
  have HL4 := Lib.hid (show (bs ++ [40] ++ x.text ++ [32]).length + (str (signOf op)).size ≤ 1000000000 by rw [size_str]; simp only [List.length_append, List.length_cons, List.length_nil]; omega)
  have HL5 := Lib.hid (show (bs ++ [40] ++ x.text ++ [32] ++ signOf op).length ≤ 1000000000 by simp only [List.length_append, List.length_cons, List.length_nil]; omega)
  have HL6 := Lib.hid (show (bs ++ [40] ++ x.text ++ [32] ++ signOf op ++ [32]).length + y.text.length ≤ 1000000000 by simp only [List.length_append, List.length_cons, List.length_nil]; omega)
  have HL7 := Lib.hid (show (bs ++ [40] ++ x.text ++ [32] ++ signOf op ++ [32] ++ y.text).length + 1 ≤ 1000000000 by simp only [List.length_append, List.length_cons, List.length_nil]; omega)
  have t1 : (op == 1) = false := by simp; omega
  have t2 : (op == 2) = false := by simp; omega
  have t3 : (op == 3) = false := by simp; omega
  have t4 : (op == 4) = false := by simp; omega
  have t5 : (op == 5) = false := by simp; omega
  have t21 : (op == 21) = false := by simp; omega
  have HSg := Lib.hid (show fval signT op = .agg #[.string (str (signOf op))] by
    rcases ho with ⟨h1, h2⟩
    have : op = 6 ∨ op = 7 ∨ op = 8 ∨ op = 9 ∨ op = 10 ∨ op = 11 ∨ op = 12 ∨ op = 13 ∨ op = 14 ∨ op = 15 ∨ op = 16 ∨ op = 17 ∨ op = 18 ∨ op = 19 ∨ op = 20 := by omega
    rcases this with rfl | rfl | rfl | rfl | rfl | rfl | rfl | rfl | rfl | rfl | rfl | rfl | rfl | rfl | rfl <;> rfl)
  have hzv : ∀ w, (zeroValue 152).run Tryz.prog w = .ok (.agg #[.string ⟨#[]⟩]) w := fun _ => by kernel_rfl
  clear ih hx2 hy2 hl
  subst hk
  go_enter Tryz.func80, Tryz.ntmps80
  go_wp2_with fail
  obtain ⟨w1, hw1⟩ : ∃ w1, w.alloc (.cells #[.map (some m)] 68) = w1 := ⟨_, rfl⟩
  rw [hw1] at HR1 HX1 HF1 hbw1 ⊢
  clear hw1 h0 h1 h2 h3
  obtain ⟨z0, z1, z2, z3⟩ := HX1.out.S
  go_region_held3 (fun W => W.cell? ⟨w.heap.size, 0, none⟩ = some (.map (some m)) ∧ W.cell? ⟨b, o, none⟩ = some (.int .i64 op) ∧ W.cell? ⟨b, o + 2, none⟩ = some (.string (str nm)) ∧ W.cell? ⟨b, o + 3, none⟩ = some (.slice (some ⟨b2, o2, none⟩) 2 c))
    (first | go_keep | assumption)
    (first
      | (refine step_byte (B := B) (bs := bs) (c := 40) (w := w1.drew) rfl (.tmp 76) (.tmp 77) rfl (by rfl) (HR1.out.later (Below.refl _ _).drew) hbw1 HL1.out (by rfl) ?_
         intro v3a w3a hRa hFa
         have HF3a := Lib.hid (HF1.out.drew.trans hFa)
         have HX3a := Lib.hid ((HX1.out.later hbB ((Fr.refl _ _).drew)).later hbB hFa)
         have hSa := HX3a.out.S)
      | (go_at_call 80
         refine (HIX.out _ _ _ (HXx.out _ HF3a.out) (HE.out.later HF3a.out.1) hRa HL2.out).mono ?_
         rintro e w3 ⟨⟨v3, rfl, hRb⟩, hFb⟩
         have hSb := (HX3a.out.later hbB hFb).S))
  have HR3 := Lib.hid hRb
  have HF3 := Lib.hid (HF3a.out.trans hFb)
  have HX3 := Lib.hid (HX3a.out.later hbB hFb)
  have hbw3 := Nat.le_trans hbw HF3.out.1.size
  clear hRb hFb hSb hRa hFa hSa
  obtain ⟨ly2, hly2⟩ : ∃ l, bs ++ [40] ++ x.text = l := ⟨_, rfl⟩
  have HLy2 := Lib.hid hly2
  rw [hly2] at HR3 HL3
  clear hly2
  have hown_ := HR3.out
  unfold BRow at hown_
  go_wp2_with (at_builtin; refine wpList_append_T _ rfl _ _ 83 rfl B 5 i0 Tryz.underlying83 hi hz0 hz1 hz2 _ _ _ rfl (hown_.alloc _) ⟨w3.heap.size, 0, none⟩ 1 1 [.int .u8 32] rfl rfl ?y2a ?y2b ?y2c ?y2d ?y2e ?_)
  case y2a => intro j u hj; match j, hj with
    | 0, hj => simp at hj; subst hj; simp [go_sem, Addr.add]
  case y2b => intro u hu; simp at hu; subst hu; rfl
  case y2c => have := HL3.out; unfold maxLen; omega
  case y2d => have := HL3.out; omega
  case y2e => exact Nat.le_trans hbw3 (by simp)
  intro v5 w5 hown hgrow
  have hap := brow_app (c := 32) HR3.out hbw3 hown hgrow
  have HR5 := Lib.hid hap.1
  have HF5a := Lib.hid hap.2
  clear hown hgrow hap hown_
  rw [← HLy2.out] at HR5
  have HF5 := Lib.hid (HF3.out.trans HF5a.out)
  have HX5 := Lib.hid (HX3.out.later hbB HF5a.out)
  have hbw5 := Nat.le_trans hbw HF5.out.1.size
  clear z0 z1 z2 z3
  obtain ⟨z0, z1, z2, z3⟩ := HX5.out.S
  have hmp := (HE.out.later HF5.out.1).mp
  have hfd := fun w => run_sign_field (str (signOf op)) w
  have hlk : ∀ W : World, W.heap[m]? = some (fmap signT) → (Instr.lookup 66 (.map (some m)) (.int .i64 op) false).run Tryz.prog W = .ok (.agg #[.string (str (signOf op))]) W := fun W h => by rw [run_look1_fmap Tryz.underlying66 Tryz.underlying22 hzv signT h op, HSg.out]
  clear HF5a hzv
  go_wp2_with fail
  go_region_held3 (fun W => W.cell? ⟨w.heap.size, 0, none⟩ = some (.map (some m)) ∧ W.cell? ⟨b, o, none⟩ = some (.int .i64 op) ∧ W.heap[m]? = some (fmap signT))
    (first | ((try dsimp only); exact ⟨by assumption, by assumption, by assumption⟩) | assumption | go_keep)
    (first
    | (refine step_str (B := B) (bs := bs ++ [40] ++ x.text ++ [32]) (s := str (signOf op)) (w := w5.drew) rfl (.tmp 88) (.tmp 96) rfl (by rfl) (HR5.out.later (Below.refl _ _).drew) hbw5 HL4.out (by rfl) ?_
       intro v6 w6 hR6 hF6
       have hX6 := (HX5.out.later hbB ((Fr.refl _ _).drew)).later hbB hF6
       have hS6 : w6.cell? ⟨w.heap.size, 0, none⟩ = some (.map (some m)) ∧ w6.cell? ⟨b, o, none⟩ = some (.int .i64 op) ∧ w6.heap[m]? = some (fmap signT) := ⟨hX6.S.1, hX6.S.2.1, (HE.out.later (HF5.out.drew.trans hF6).1).mp⟩))
  rw [str_data] at hR6
  have HR6 := Lib.hid hR6
  have HF6 := Lib.hid (HF5.out.drew.trans hF6)
  have HX6 := Lib.hid hX6
  have hbw6 := Nat.le_trans hbw HF6.out.1.size
  clear hR6 hF6 hX6 hS6 hlk hmp hfd z0 z1 z2 z3
  obtain ⟨z0, z1, z2, z3⟩ := HX6.out.S
  go_wp2_with fail
  go_region_held3 (fun W => W.cell? ⟨w.heap.size, 0, none⟩ = some (.map (some m)) ∧ W.cell? ⟨b, o, none⟩ = some (.int .i64 op) ∧ W.cell? ⟨b, o + 2, none⟩ = some (.string (str nm)) ∧ W.cell? ⟨b, o + 3, none⟩ = some (.slice (some ⟨b2, o2, none⟩) 2 c))
    (first | go_keep | assumption)
    (first
      | (refine step_byte (B := B) (bs := bs ++ [40] ++ x.text ++ [32] ++ signOf op) (c := 32) (w := w6.drew) rfl (.tmp 99) (.tmp 100) rfl (by rfl) (HR6.out.later (Below.refl _ _).drew) hbw6 HL5.out (by rfl) ?_
         intro v7a w7a hRa hFa
         have HF7a := Lib.hid (HF6.out.drew.trans hFa)
         have HX7a := Lib.hid ((HX6.out.later hbB ((Fr.refl _ _).drew)).later hbB hFa)
         have hSa := HX7a.out.S)
      | (go_at_call 80
         refine (HIY.out _ _ _ (HXy.out _ HF7a.out) (HE.out.later HF7a.out.1) hRa HL6.out).mono ?_
         rintro e w7 ⟨⟨v7, rfl, hRb⟩, hFb⟩
         have hSb := (HX7a.out.later hbB hFb).S))
  have HR7 := Lib.hid hRb
  have HF7 := Lib.hid (HF7a.out.trans hFb)
  have HX7 := Lib.hid (HX7a.out.later hbB hFb)
  have hbw7 := Nat.le_trans hbw HF7.out.1.size
  clear hRb hFb hSb hRa hFa hSa
  obtain ⟨ly3, hly3⟩ : ∃ l, bs ++ [40] ++ x.text ++ [32] ++ signOf op ++ [32] ++ y.text = l := ⟨_, rfl⟩
  have HLy3 := Lib.hid hly3
  rw [hly3] at HR7 HL7
  clear hly3
  have hown_ := HR7.out
  unfold BRow at hown_
  go_wp2_with (at_builtin; refine wpList_append_T _ rfl _ _ 83 rfl B 5 i0 Tryz.underlying83 hi hz0 hz1 hz2 _ _ _ rfl (hown_.alloc _) ⟨w7.heap.size, 0, none⟩ 1 1 [.int .u8 41] rfl rfl ?y3a ?y3b ?y3c ?y3d ?y3e ?_)
  case y3a => intro j u hj; match j, hj with
    | 0, hj => simp at hj; subst hj; simp [go_sem, Addr.add]
  case y3b => intro u hu; simp at hu; subst hu; rfl
  case y3c => have := HL7.out; unfold maxLen; omega
  case y3d => have := HL7.out; omega
  case y3e => exact Nat.le_trans hbw7 (by simp)
  intro v9 w9 hown hgrow
  have hap := brow_app (c := 41) HR7.out hbw7 hown hgrow
  have HR9 := Lib.hid hap.1
  have HF9 := Lib.hid hap.2
  clear hown hgrow hap hown_
  rw [← HLy3.out] at HR9
  go_wp2_with fail
  go_ret
  exact ⟨⟨v9, rfl, by have h := HR9.out; simpa using h⟩, HF7.out.trans HF9.out⟩

end Go.Proofs.YtlhbledakddbbaaGreatDoor
/- Which expressions may be: the document's mayExpr, MayExpr. -/
namespace Go.Proofs.YtlhbledakddbbaaGreatDoor
open Go.RowKit

def argsR (op : Int) : Int := if op = 4 ∨ op = 5 then 1 else if 6 ≤ op ∧ op ≤ 20 then 2 else if op = 21 then 3 else -1
theorem argsR_of {op : Int} (h : 4 ≤ op) (h2 : op ≤ 21) : argsR op = (argsN op : Int) := by
  unfold argsR argsN
  repeat' split
  all_goals omega
theorem argsR_no {op : Int} (h : op < 4 ∨ 21 < op) : argsR op = -1 := by unfold argsR; rw [if_neg (by omega), if_neg (by omega), if_neg (by omega)]
set_option maxHeartbeats 1600000 in
theorem rargs_any (op : Int) (w : World) : Calls Tryz.prog 82 #[.int .i64 op] w fun e w' => e = .returned (.int .i64 (argsR op)) ∧ w = w' := by
  by_cases h4 : op = 4
  · subst h4
    go_enter Tryz.func82, Tryz.ntmps82
    go_wp2_with fail
    go_ret
    exact ⟨rfl, rfl⟩
  by_cases h5 : op = 5
  · subst h5
    go_enter Tryz.func82, Tryz.ntmps82
    go_wp2_with fail
    go_ret
    exact ⟨rfl, rfl⟩
  have t4 : (op == 4) = false := by simp; exact h4
  have t5 : (op == 5) = false := by simp; exact h5
  by_cases h6 : 6 ≤ op
  · by_cases h20 : op ≤ 20
    · have HF := Lib.hid (show argsR op = 2 by unfold argsR; rw [if_neg (by omega), if_pos (by omega)])
      rw [HF.out]
      go_enter Tryz.func82, Tryz.ntmps82
      go_wp2_with fail
      go_ret
      exact ⟨rfl, rfl⟩
    · by_cases h21 : op = 21
      · subst h21
        go_enter Tryz.func82, Tryz.ntmps82
        go_wp2_with fail
        go_ret
        exact ⟨rfl, rfl⟩
      · have t21 : (op == 21) = false := by simp; exact h21
        rw [argsR_no (by omega)]
        go_enter Tryz.func82, Tryz.ntmps82
        go_wp2_with fail
        go_ret
        exact ⟨rfl, rfl⟩
  · have t21 : (op == 21) = false := by simp; omega
    rw [argsR_no (by omega)]
    go_enter Tryz.func82, Tryz.ntmps82
    go_wp2_with fail
    go_ret
    exact ⟨rfl, rfl⟩
theorem Exs.may_nil {a : Exs} (h : a.len = 0) : a.may = true := by cases a with | nil => rfl | cons => simp [Exs.len] at h
def RM (n : Nat) : Prop := ∀ x : Ex, x.size < n → ∀ (p : Option Addr) (c N : Nat) (w : World), x.Ok w N p → N ≤ w.heap.size →
    Calls Tryz.prog 39 #[x.val p c] w fun e w' => e = .returned (.bool x.may) ∧ Below w.heap.size w w'
set_option maxRecDepth 100000 in
set_option maxHeartbeats 6400000 in
theorem rm_step (n : Nat) (ih : RM n) : RM (n + 1) := by
  intro x hxs p c N w hx hN
  obtain ⟨op, wd, nm, ar⟩ := x
  simp only [Ex.size] at hxs
  have hin := hx.1
  simp only [Ex.args] at hin
  have hm := hin.1
  have hB1 : Below w.heap.size w (w.alloc (.cells #[.int .i64 op, .int .u64 (wd : Int), .string (str nm), .slice p ar.len c] 26)) := (Below.refl _ _).alloc (Nat.le_refl _) _
  have HB1 := Lib.hid hB1
  have HX := Lib.hid (fun w1 hb => cells_later (w0 := w.alloc (.cells #[.int .i64 op, .int .u64 (wd : Int), .string (str nm), .slice p ar.len c] 26)) (w1 := w1) (b := w.heap.size) (A := #[.int .i64 op, .int .u64 (wd : Int), .string (str nm), .slice p ar.len c]) (t := 26) (heap_alloc_new w _) hb)
  have HIN := Lib.hid (fun (w1 : World) (hb : Below w.heap.size w w1) => hin.later (hb.mono hN) (Nat.le_trans hN hb.size))
  have HAr := Lib.hid (fun w => rargs_any op w)
  have HNm := Lib.hid (fun w => rnm_any (str nm) w)
  rw [str_data] at HNm
  have IH := Lib.hid ih
  rw [show (Ex.mk op wd nm ar).may = (decide (ar.len = argsN op) && ar.may && okOp op wd nm) by rw [Ex.may]]
  unfold Ex.val
  simp only [Ex.op, Ex.word, Ex.name, Ex.args]
  clear ih hin hB1 hx hN
  have es : ((str nm).toList == []) = nm.isEmpty := str_empty nm
  have es2 : (str nm).toList.isEmpty = nm.isEmpty := by rw [Lib.toList_data, str_data]
  have ew : (((wd : Nat) : Int) == 0) = decide (wd = 0) := nat_zero wd
  have ew2 : (((wd : Nat) : Int) != 0) = !decide (wd = 0) := by rw [← ew]; rfl
  by_cases o1 : op = 1
  · subst o1
    rw [argsR_no (by omega)] at HAr
    by_cases hl : ar.len = 0
    · have HF := Lib.hid (show nm.isEmpty = (decide (ar.len = argsN 1) && ar.may && okOp 1 wd nm) by rw [Exs.may_nil hl, hl, okOp_1]; simp [argsN])
      generalize nm.isEmpty = em at es es2 HF
      have e0 : ((ar.len : Int) == 0) = true := by simp [hl]
      clear hl
      cases em
      go_enter Tryz.func39, Tryz.ntmps39
      go_wp2_with fail
      refine (HAr.out _).mono ?_
      rintro e w' ⟨rfl, rfl⟩
      go_wp2_with fail
      go_ret
      exact ⟨ret_bool HF.out, HB1.out⟩
      go_enter Tryz.func39, Tryz.ntmps39
      go_wp2_with fail
      refine (HAr.out _).mono ?_
      rintro e w' ⟨rfl, rfl⟩
      go_wp2_with fail
      go_ret
      exact ⟨ret_bool HF.out, HB1.out⟩
    · have HF := Lib.hid (show false = (decide (ar.len = argsN 1) && ar.may && okOp 1 wd nm) by rw [decide_eq_false (by simpa [argsN] using hl)]; rfl)
      generalize nm.isEmpty = em at es es2
      have e0 : ((ar.len : Int) == 0) = false := by simp [hl]
      clear hl
      cases em
      go_enter Tryz.func39, Tryz.ntmps39
      go_wp2_with fail
      refine (HAr.out _).mono ?_
      rintro e w' ⟨rfl, rfl⟩
      go_wp2_with fail
      go_ret
      exact ⟨ret_bool HF.out, HB1.out⟩
      go_enter Tryz.func39, Tryz.ntmps39
      go_wp2_with fail
      refine (HAr.out _).mono ?_
      rintro e w' ⟨rfl, rfl⟩
      go_wp2_with fail
      go_ret
      exact ⟨ret_bool HF.out, HB1.out⟩
  by_cases o23 : op = 2 ∨ op = 3
  · have HF0 := Lib.hid (okOp_23 o23 wd nm)
    have har : argsR op = -1 := argsR_no (by omega)
    rw [har] at HAr
    cases hnb : nameB nm with
    | false =>
      rw [hnb] at HNm
      have HF := Lib.hid (show false = (decide (ar.len = argsN op) && ar.may && okOp op wd nm) by rw [HF0.out, hnb]; simp)
      clear hnb har
      rcases o23 with rfl | rfl
      all_goals
        go_enter Tryz.func39, Tryz.ntmps39
        go_wp2_with fail
        refine (HAr.out _).mono ?_
        rintro e w' ⟨rfl, rfl⟩
        go_wp2_with fail
        refine (HNm.out _).mono ?_
        rintro e wn ⟨rfl, hB⟩
        have HD := Lib.hid hB
        have HBn := Lib.hid (HB1.out.trans (hB.mono HB1.out.size))
        clear hB
        go_wp2_with fail
        go_ret
        exact ⟨ret_bool HF.out, HBn.out⟩
    | true =>
      rw [hnb] at HNm
      cases hz : decide (wd = 0) with
      | false =>
        have HF := Lib.hid (show false = (decide (ar.len = argsN op) && ar.may && okOp op wd nm) by rw [HF0.out, hz]; simp)
        rw [hz] at ew ew2
        clear hz hnb har
        rcases o23 with rfl | rfl
        · go_enter Tryz.func39, Tryz.ntmps39
          go_wp2_with fail
          refine (HAr.out _).mono ?_
          rintro e w' ⟨rfl, rfl⟩
          go_wp2_with fail
          refine (HNm.out _).mono ?_
          rintro e wn ⟨rfl, hB⟩
          have HD := Lib.hid hB
          have HBn := Lib.hid (HB1.out.trans (hB.mono HB1.out.size))
          clear hB
          have c1 : wn.cell? ⟨w.heap.size, 1, none⟩ = some (.int .u64 (wd : Int)) := HX.out _ HD.out 1 _ rfl
          go_wp2_with fail
          go_ret
          exact ⟨ret_bool HF.out, HBn.out⟩
        · go_enter Tryz.func39, Tryz.ntmps39
          go_wp2_with fail
          refine (HAr.out _).mono ?_
          rintro e w' ⟨rfl, rfl⟩
          go_wp2_with fail
          refine (HNm.out _).mono ?_
          rintro e wn ⟨rfl, hB⟩
          have HD := Lib.hid hB
          have HBn := Lib.hid (HB1.out.trans (hB.mono HB1.out.size))
          clear hB
          have c1 : wn.cell? ⟨w.heap.size, 1, none⟩ = some (.int .u64 (wd : Int)) := HX.out _ HD.out 1 _ rfl
          go_wp2_with fail
          go_ret
          exact ⟨ret_bool HF.out, HBn.out⟩
      | true =>
        rw [hz] at ew ew2
        rcases o23 with rfl | rfl
        · by_cases hl : ar.len = 0
          · have HF := Lib.hid (show true = (decide (ar.len = argsN 2) && ar.may && okOp 2 wd nm) by rw [HF0.out, hz, hnb, Exs.may_nil hl, hl]; rfl)
            have e0 : ((ar.len : Int) == 0) = true := by simp [hl]
            clear hl hz hnb har
            go_enter Tryz.func39, Tryz.ntmps39
            go_wp2_with fail
            refine (HAr.out _).mono ?_
            rintro e w' ⟨rfl, rfl⟩
            go_wp2_with fail
            refine (HNm.out _).mono ?_
            rintro e wn ⟨rfl, hB⟩
            have HD := Lib.hid hB
            have HBn := Lib.hid (HB1.out.trans (hB.mono HB1.out.size))
            clear hB
            have c1 : wn.cell? ⟨w.heap.size, 1, none⟩ = some (.int .u64 (wd : Int)) := HX.out _ HD.out 1 _ rfl
            have c3 : wn.cell? ⟨w.heap.size, 3, none⟩ = some (.slice p ar.len c) := HX.out _ HD.out 3 _ rfl
            go_wp2_with fail
            go_ret
            exact ⟨ret_bool HF.out, HBn.out⟩
          · have HF := Lib.hid (show false = (decide (ar.len = argsN 2) && ar.may && okOp 2 wd nm) by rw [decide_eq_false (by simpa [argsN] using hl)]; rfl)
            have e0 : ((ar.len : Int) == 0) = false := by simp [hl]
            clear hl hz hnb har
            go_enter Tryz.func39, Tryz.ntmps39
            go_wp2_with fail
            refine (HAr.out _).mono ?_
            rintro e w' ⟨rfl, rfl⟩
            go_wp2_with fail
            refine (HNm.out _).mono ?_
            rintro e wn ⟨rfl, hB⟩
            have HD := Lib.hid hB
            have HBn := Lib.hid (HB1.out.trans (hB.mono HB1.out.size))
            clear hB
            have c1 : wn.cell? ⟨w.heap.size, 1, none⟩ = some (.int .u64 (wd : Int)) := HX.out _ HD.out 1 _ rfl
            have c3 : wn.cell? ⟨w.heap.size, 3, none⟩ = some (.slice p ar.len c) := HX.out _ HD.out 3 _ rfl
            go_wp2_with fail
            go_ret
            exact ⟨ret_bool HF.out, HBn.out⟩
        · by_cases hl : ar.len = 1
          · obtain ⟨y, rfl⟩ := Exs.one hl
            simp only [Exs.size] at hxs
            have HF := Lib.hid (show y.may = (decide ((Exs.cons y .nil).len = argsN 3) && (Exs.cons y .nil).may && okOp 3 wd nm) by rw [HF0.out, hz, hnb]; simp [Exs.may, Exs.len, argsN])
            have e0 : (((Exs.cons y .nil).len : Int) == 1) = true := by simp [Exs.len]
            have hlp : 0 < (Exs.cons y .nil).len := by simp [Exs.len]
            clear hl hz hnb har
            go_enter Tryz.func39, Tryz.ntmps39
            go_wp2_with fail
            refine (HAr.out _).mono ?_
            rintro e w' ⟨rfl, rfl⟩
            go_wp2_with fail
            refine (HNm.out _).mono ?_
            rintro e wn ⟨rfl, hB⟩
            have HD := Lib.hid hB
            have HBn := Lib.hid (HB1.out.trans (hB.mono HB1.out.size))
            clear hB
            obtain ⟨b2, o2, hp2, hb2, hy2⟩ := Exs.In.some' (l := .cons y .nil) (HIN.out wn HBn.out) (by simp [Exs.len])
            subst hp2
            have c1 : wn.cell? ⟨w.heap.size, 1, none⟩ = some (.int .u64 (wd : Int)) := HX.out _ HD.out 1 _ rfl
            have c3 : wn.cell? ⟨w.heap.size, 3, none⟩ = some (.slice (some ⟨b2, o2, none⟩) (Exs.cons y .nil).len c) := HX.out _ HD.out 3 _ rfl
            obtain ⟨q, cq, d0, d1, d2, d3, hok⟩ := hy2.1.open'
            have HC := Lib.hid (IH.out y (by omega) q cq wn.heap.size wn hok (Nat.le_refl _))
            unfold Ex.val at HC
            generalize y.may = v at HC HF
            clear hok hy2
            go_wp2_with fail
            refine HC.out.mono ?_
            rintro e w3 ⟨rfl, hB⟩
            have HB3 := Lib.hid (HBn.out.trans (hB.mono HBn.out.size))
            clear hB
            go_wp2_with fail
            go_ret
            exact ⟨ret_bool HF.out, HB3.out⟩
          · have HF := Lib.hid (show false = (decide (ar.len = argsN 3) && ar.may && okOp 3 wd nm) by rw [decide_eq_false (by simpa [argsN] using hl)]; rfl)
            have e0 : ((ar.len : Int) == 1) = false := by simp; omega
            clear hl hz hnb har
            go_enter Tryz.func39, Tryz.ntmps39
            go_wp2_with fail
            refine (HAr.out _).mono ?_
            rintro e w' ⟨rfl, rfl⟩
            go_wp2_with fail
            refine (HNm.out _).mono ?_
            rintro e wn ⟨rfl, hB⟩
            have HD := Lib.hid hB
            have HBn := Lib.hid (HB1.out.trans (hB.mono HB1.out.size))
            clear hB
            have c1 : wn.cell? ⟨w.heap.size, 1, none⟩ = some (.int .u64 (wd : Int)) := HX.out _ HD.out 1 _ rfl
            have c3 : wn.cell? ⟨w.heap.size, 3, none⟩ = some (.slice p ar.len c) := HX.out _ HD.out 3 _ rfl
            go_wp2_with fail
            go_ret
            exact ⟨ret_bool HF.out, HBn.out⟩
  have t1 : (op == 1) = false := by simp; exact o1
  have t2 : (op == 2) = false := by simp; omega
  have t3 : (op == 3) = false := by simp; omega
  by_cases hop : 4 ≤ op ∧ op ≤ 21
  · rw [argsR_of hop.1 hop.2] at HAr
    have HF0 := Lib.hid (okOp_4 hop.1 hop.2 wd nm)
    clear hop o1 o23
    by_cases hl : ar.len = argsN op
    · have HL := Lib.hid hl
      have hl' : ((ar.len : Int) != (argsN op : Int)) = false := by simp [hl]
      have hn0 : ¬ ((argsN op : Int) < 0) := by omega
      generalize hem : nm.isEmpty = em at es es2
      cases em with
      | false =>
        have HF := Lib.hid (show false = (decide (ar.len = argsN op) && ar.may && okOp op wd nm) by rw [HF0.out, hem]; simp)
        clear hem hl
        generalize argsN op = an at HAr HF hl' hn0
        clear HL
        go_enter Tryz.func39, Tryz.ntmps39
        go_wp2_with fail
        refine (HAr.out _).mono ?_
        rintro e w' ⟨rfl, rfl⟩
        go_wp2_with fail
        go_ret
        exact ⟨ret_bool HF.out, HB1.out⟩
      | true =>
        generalize hz : decide (wd = 0) = z at ew ew2
        cases z with
        | false =>
          have HF := Lib.hid (show false = (decide (ar.len = argsN op) && ar.may && okOp op wd nm) by rw [HF0.out, hz]; simp)
          clear hem hl hz
          generalize argsN op = an at HAr HF hl' hn0
          clear HL
          go_enter Tryz.func39, Tryz.ntmps39
          go_wp2_with fail
          refine (HAr.out _).mono ?_
          rintro e w' ⟨rfl, rfl⟩
          go_wp2_with fail
          go_ret
          exact ⟨ret_bool HF.out, HB1.out⟩
        | true =>
          have HF := Lib.hid (show ar.may = (decide (ar.len = argsN op) && ar.may && okOp op wd nm) by rw [HF0.out, hz, hem, decide_eq_true hl]; simp)
          clear hem hl hz HL
          generalize argsN op = an at HAr HF hl' hn0
          go_enter Tryz.func39, Tryz.ntmps39
          go_wp2_with fail
          refine (HAr.out _).mono ?_
          rintro e w' ⟨rfl, rfl⟩
          go_wp2_with fail
          obtain ⟨W1, hW1⟩ : ∃ W1, w.alloc (.cells #[.int .i64 op, .int .u64 (wd : Int), .string (str nm), .slice p ar.len c] 26) = W1 := ⟨_, rfl⟩
          rw [hW1] at HB1 HX
          rw [hW1]
          clear hW1
          go_loopw [4] (fun i wr => ∃ (k : Nat) (r : Exs), i = .int .i64 k ∧ k + r.len = ar.len ∧ r.size ≤ n ∧ Hid (∀ b o, p = some ⟨b, o, none⟩ → ar.At W1 W1.heap.size b o → r.At W1 W1.heap.size b (o + k * 4)) ∧ Hid (ar.may = r.may) ∧ Hid (Below W1.heap.size W1 wr)) (fun i _ => ar.len - (intOf i).toNat)
          case atStart => exact ⟨0, ar, rfl, by omega, by omega, Lib.hid fun b o _ h => by rw [Nat.zero_mul]; exact h, Lib.hid rfl, Lib.hid (Below.refl _ _)⟩
          case round =>
            obtain ⟨k, r, rfl, hk, hrs, hat, hE, HD⟩ := hrel
            have c3 : wr.cell? ⟨w.heap.size, 3, none⟩ = some (.slice p ar.len c) := HX.out _ HD.out 3 _ rfl
            cases r with
            | nil =>
              simp only [Exs.len] at hk
              have hge : ¬ k < ar.len := by omega
              have HF2 := Lib.hid (show true = (decide (ar.len = an) && ar.may && okOp op wd nm) by rw [← HF.out, hE.out]; rfl)
              go_wp2_with fail
              go_ret
              exact ⟨ret_bool HF2.out, HB1.out.trans (HD.out.mono HB1.out.size)⟩
            | cons y r =>
              simp only [Exs.len] at hk
              simp only [Exs.size] at hrs
              have hlt : k < ar.len := by omega
              rcases (HIN.out W1 HB1.out).2 with h30 | ⟨b, o, rfl, hb, ha⟩
              · omega
              obtain ⟨hy, hr⟩ := hat.out b o rfl ha
              have HR := Lib.hid hr
              obtain ⟨q, cq, d0, d1, d2, d3, hok⟩ := (Ex.At.later HD.out HD.out.size y b _ hb hy).open'
              have HC := Lib.hid (IH.out y (by omega) q cq wr.heap.size wr hok (Nat.le_refl _))
              have HM := Lib.hid (show ar.may = (y.may && r.may) by rw [hE.out, Exs.may])
              unfold Ex.val at HC
              generalize y.may = v at HC HM
              clear hok hy hr ha hat
              cases v with
              | true =>
                go_wp2_with fail
                refine HC.out.mono ?_
                rintro e w3 ⟨rfl, hB⟩
                have HB3 := Lib.hid (HD.out.trans (hB.mono HD.out.size))
                clear hB HC d0 d1 d2 d3
                go_wp2_with fail
                go_roundw
                case rel => exact ⟨k + 1, r, by go_num, by omega, by omega, Lib.hid fun b' o' hbo _ => by cases hbo; rw [show o + (k + 1) * 4 = o + k * 4 + 4 by omega]; exact HR.out, Lib.hid (by rw [HM.out]; rfl), HB3⟩
                case measure => simp [intOf]; omega
              | false =>
                have HF2 := Lib.hid (show false = (decide (ar.len = an) && ar.may && okOp op wd nm) by rw [← HF.out, HM.out]; rfl)
                go_wp2_with fail
                refine HC.out.mono ?_
                rintro e w3 ⟨rfl, hB⟩
                have HB3 := Lib.hid (HD.out.trans (hB.mono HD.out.size))
                clear hB HC d0 d1 d2 d3
                go_wp2_with fail
                go_ret
                exact ⟨ret_bool HF2.out, HB1.out.trans (HB3.out.mono HB1.out.size)⟩
    · have HF := Lib.hid (show false = (decide (ar.len = argsN op) && ar.may && okOp op wd nm) by rw [decide_eq_false hl]; rfl)
      have hl' : ((ar.len : Int) != (argsN op : Int)) = true := by simp; omega
      have hn0 : ¬ ((argsN op : Int) < 0) := by omega
      clear hl
      generalize argsN op = an at HAr HF hl' hn0
      go_enter Tryz.func39, Tryz.ntmps39
      go_wp2_with fail
      refine (HAr.out _).mono ?_
      rintro e w' ⟨rfl, rfl⟩
      go_wp2_with fail
      go_ret
      exact ⟨ret_bool HF.out, HB1.out⟩
  · have har : argsR op = -1 := argsR_no (by omega)
    rw [har] at HAr
    have HF := Lib.hid (show false = (decide (ar.len = argsN op) && ar.may && okOp op wd nm) by rw [okOp_no (by omega)]; simp)
    clear hop o1 o23 har
    go_enter Tryz.func39, Tryz.ntmps39
    go_wp2_with fail
    refine (HAr.out _).mono ?_
    rintro e w' ⟨rfl, rfl⟩
    go_wp2_with fail
    go_ret
    exact ⟨ret_bool HF.out, HB1.out⟩
theorem rm_to : ∀ n, RM n
  | 0 => fun _ h => absurd h (Nat.not_lt_zero _)
  | n + 1 => rm_step n (rm_to n)
theorem rmayExpr_any (x : Ex) (p : Option Addr) (c N : Nat) (w : World) (h : x.Ok w N p) (hN : N ≤ w.heap.size) :
    Calls Tryz.prog 39 #[x.val p c] w fun e w' => e = .returned (.bool x.may) ∧ Below w.heap.size w w' :=
  rm_to _ x (Nat.lt_succ_self _) p c N w h hN
end Go.Proofs.YtlhbledakddbbaaGreatDoor
/- Expr: an expression's text, or why there is none. -/
namespace Go.Proofs.YtlhbledakddbbaaGreatDoor
open Go.RowKit

theorem may_parts {op : Int} {wd : Nat} {nm : List UInt8} {ar : Exs} (h : (Ex.mk op wd nm ar).may = true) : ar.len = argsN op ∧ ar.may = true ∧ okOp op wd nm = true := by
  rw [Ex.may, Bool.and_eq_true, Bool.and_eq_true, decide_eq_true_eq] at h
  exact ⟨h.1.1, h.1.2, h.2⟩
theorem tell_step (n : Nat) (ih : TellTo n) : TellTo (n + 1) := by
  intro x hxs hm b o N B m v bs w hb hN hx he hR hl
  obtain ⟨op, wd, nm, ar⟩ := x
  obtain ⟨hlen, hma, hok⟩ := may_parts hm
  obtain ⟨⟨h0, h1, h2, h3⟩, ⟨p, c, h4, s4⟩⟩ := hx
  simp only [Ex.size] at hxs
  have hop : op = 1 ∨ op = 2 ∨ op = 3 ∨ op = 4 ∨ op = 5 ∨ op = 21 ∨ (6 ≤ op ∧ op ≤ 20) := by
    rcases Int.lt_or_le op 1 with h | h
    · rw [okOp_no (by omega)] at hok; cases hok
    · rcases Int.lt_or_le 21 op with h' | h'
      · rw [okOp_no (by omega)] at hok; cases hok
      · omega
  have one : ar.len = 1 → ∃ y, ar = .cons y .nil ∧ y.size < n ∧ y.may = true ∧ ∃ b2 o2, p = some ⟨b2, o2, none⟩ ∧ b2 < N ∧ y.At w N b2 o2 := fun h => by
    obtain ⟨y, rfl⟩ := Exs.one h
    simp only [Exs.size] at hxs
    rw [Exs.may, Bool.and_eq_true] at hma
    obtain ⟨b2, o2, e1, e2, e3⟩ := Exs.In.some' (l := .cons y .nil) s4 (by simp [Exs.len])
    exact ⟨y, rfl, by omega, hma.1, b2, o2, e1, e2, e3.1⟩
  rcases hop with rfl | rfl | rfl | rfl | rfl | rfl | hop
  · exact expr_const b o N B m v bs w hb hN he hR wd nm p ar.len c h3 ⟨h0, h1, h2, h4⟩ hl
  · exact expr_var b o N B m v bs w hb hN he hR wd nm p ar.len c ⟨h0, h1, h2, h4⟩ hl
  · obtain ⟨y, rfl, hys, hym, hsub⟩ := one hlen
    exact expr_index b o N B m v bs w hb hN he hR wd nm p _ c n ih y hys hym rfl hsub ⟨h0, h1, h2, h4⟩ hl
  · obtain ⟨y, rfl, hys, hym, hsub⟩ := one hlen
    exact expr_not b o N B m v bs w hb hN he hR wd nm p _ c n ih y hys hym rfl hsub ⟨h0, h1, h2, h4⟩ hl
  · obtain ⟨y, rfl, hys, hym, hsub⟩ := one hlen
    exact expr_neg b o N B m v bs w hb hN he hR wd nm p _ c n ih y hys hym rfl hsub ⟨h0, h1, h2, h4⟩ hl
  · exact expr_pick b o N B m v bs w hb hN he hR wd nm p _ c n ih ar (by omega) hma rfl s4 ⟨h0, h1, h2, h4⟩ hl
  · have h2' : ar.len = 2 := by rw [hlen, argsN, if_neg (by omega), if_pos hop]
    obtain ⟨y, z, rfl⟩ := Exs.two h2'
    simp only [Exs.size] at hxs
    rw [Exs.may, Exs.may, Bool.and_eq_true, Bool.and_eq_true] at hma
    obtain ⟨b2, o2, e1, e2, e3⟩ := Exs.In.some' (l := .cons y (.cons z .nil)) s4 (by simp [Exs.len])
    have ht : (Ex.mk op wd nm (.cons y (.cons z .nil))).text = [40] ++ y.text ++ [32] ++ signOf op ++ [32] ++ z.text ++ [41] := by
      rw [Ex.text, textOf, if_neg (by omega), if_neg (by omega), if_neg (by omega), if_neg (by omega), if_neg (by omega), if_neg (by omega)]; rfl
    rw [ht] at hl ⊢
    exact expr_two b o N B m v bs w hb hN he hR wd nm p _ c n ih y z (by omega) hma.1 (by omega) hma.2.1 op hop rfl ⟨b2, o2, e1, e2, e3.1, e3.2.1⟩ ⟨h0, h1, h2, h4⟩ hl
theorem tell_to : ∀ n, TellTo n
  | 0 => fun _ h => absurd h (Nat.not_lt_zero _)
  | n + 1 => tell_step n (tell_to n)

/-- the library's table lies there, and stays -/
def Glob (w : World) : Prop := Lib.TabBelow Tryz.prog w.heap.size w "internal/strconv.uint64pow10" .u64 Lib.pow10Tab
theorem Glob.later {w w' : World} (h : Glob w) (hB : Below w.heap.size w w') : Glob w' := fun w2 h2 => h w2 (hB.trans (h2.mono hB.size))

set_option maxRecDepth 100000 in
set_option maxHeartbeats 1600000 in
theorem newTeller_any (w : World) : Calls Tryz.prog 36 #[] w fun e w' => ∃ m, e = .returned (.agg #[.map (some m)]) ∧ w'.heap[m]? = some (fmap signT) ∧ Below w.heap.size w w' := by
  have HC := Lib.hid (signs_any (w.alloc (.cells #[.map none] 68)))
  go_enter Tryz.func36, Tryz.ntmps36
  go_wp2_with fail
  refine HC.out.mono ?_
  rintro e w2 ⟨m, rfl, hmp, hmb, hB2⟩
  have hg : w2.heap[w.heap.size]? = some (.cells #[.map none] 68 (0, 0)) := (hB2.block _ (by simp)).trans (heap_alloc_new w _)
  have c0 := cell_of_one hg
  have z0 := free_of_one hg
  have HM := Lib.hid (And.intro hmp hmb)
  have HB := Lib.hid (((Below.refl _ w).alloc (Nat.le_refl _) (.cells #[.map none] 68)).trans (hB2.mono (by simp)))
  clear hmp hmb hB2 hg
  go_wp2_with fail
  have hc := World.cell?_setCell_same w2 ⟨w.heap.size, 0, none⟩ (.map (some m)) c0
  refine bodyPost_ret (v := .agg #[.map (some m)]) (by simp [results, Tryz.results36, go_sem, hc]) rfl ⟨m, rfl, ?_, HB.out.setCell (Nat.le_refl _) _⟩
  rw [Below.heap_setCell _ _ _ _ (by have := HM.out.2; simp at this; show m ≠ w.heap.size; omega)]
  exact HM.out.1

set_option maxRecDepth 100000 in
set_option maxHeartbeats 1600000 in
theorem exprText_any (x : Ex) (hm : x.may = true) (b o m : Nat) (w : World) (hb : b < w.heap.size) (hx : x.At w w.heap.size b o) (hmp : w.heap[m]? = some (fmap signT)) (hG : Glob w) (hl : x.text.length ≤ 1000000000) :
    Calls Tryz.prog 37 #[.agg #[.map (some m)], .pointer (some ⟨b, o, none⟩)] w fun e w' => e = .returned (.string (str x.text)) ∧ Below w.heap.size w w' := by
  have hB1 : Below w.heap.size w (w.alloc (.cells #[.map (some m)] 68)) := (Below.refl _ _).alloc (Nat.le_refl _) _
  have HB1 := Lib.hid hB1
  have HC := Lib.hid (tell_to _ x (Nat.lt_succ_self _) hm b o w.heap.size w.heap.size m (.slice none 0 0) [] (w.alloc (.cells #[.map (some m)] 68)) hb (Nat.le_refl _) (Ex.At.later hB1 (Nat.le_refl _) x b o hb hx)
    ⟨(hB1.block m (lt_of_block hmp)).trans hmp, lt_of_block hmp, fun w2 h2 => hG w2 (hB1.trans h2), by simp⟩ (BRow.nil _ _) (by simpa using hl))
  clear hx hmp hG hB1
  go_enter Tryz.func37, Tryz.ntmps37
  go_wp2_with fail
  refine HC.out.mono ?_
  rintro e w2 ⟨⟨v, rfl, hR⟩, hF⟩
  have hcv := BRow.conv hR
  have HF := Lib.hid (HB1.out.trans hF.1)
  clear hR hF
  go_wp2_with fail
  go_ret
  exact ⟨rfl, HF.out⟩

def exprR (x : Ex) : List UInt8 := if 64 < x.depth ∨ x.may = false then [] else if 65536 < x.text.length then [] else x.text
def exprE (x : Ex) : Nat := if 64 < x.depth ∨ x.may = false then 2 else if 65536 < x.text.length then 3 else 0

set_option maxRecDepth 100000 in
set_option maxHeartbeats 3200000 in
theorem expr_any (x : Ex) (p : Option Addr) (c N : Nat) (w : World) (hx6 : x.size ≤ 1000000) (h : x.Ok w N p) (hN : N ≤ w.heap.size) (hG : Glob w) (hl : x.may = true → x.text.length ≤ 1000000000) :
    Calls Tryz.prog 10 #[x.val p c] w fun e w' => e = .returned (.tuple #[.string (str (exprR x)), .int .i64 (exprE x)]) ∧ Below w.heap.size w w' := by
  obtain ⟨w1, hw1⟩ : ∃ w1, w.alloc (.cells #[.int .i64 x.op, .int .u64 (x.word : Int), .string (str x.name), .slice p x.args.len c] 26) = w1 := ⟨_, rfl⟩
  have hB1 : Below w.heap.size w w1 := by rw [← hw1]; exact (Below.refl _ _).alloc (Nat.le_refl _) _
  have hAt : x.At w1 (w.heap.size + 1) w.heap.size 0 := by rw [← hw1]; exact Ex.At.new h hN
  have hz1 : w1.heap.size = w.heap.size + 1 := by rw [← hw1]; simp
  have hOk1 := h.later (hB1.mono hN) (Nat.le_refl _)
  have e0 : w1.heap[w.heap.size]? = some (.cells #[.int .i64 x.op, .int .u64 (x.word : Int), .string (str x.name), .slice p x.args.len c] 26 (0, 0)) := by rw [← hw1]; exact heap_alloc_new w _
  have HG1 := Lib.hid (hG.later hB1)
  have HD := Lib.hid (depth_any x hx6 p c N w1 hOk1 (by omega))
  have HM := Lib.hid (fun w2 (hB : Below w1.heap.size w1 w2) => mayExpr_any x p c N w2 (by have := hB.size; omega) (hOk1.later (hB.mono (by omega)) (Nat.le_refl _)))
  have HAt := Lib.hid (fun w2 (hB : Below w1.heap.size w1 w2) => (Ex.At.later (hB.mono (by omega)) (by have := hB.size; omega) x w.heap.size 0 (by omega) hAt : x.At w2 w2.heap.size w.heap.size 0))
  have c0 : w1.cell? ⟨w.heap.size, 0, none⟩ = some (.int .i64 x.op) := by simp [World.cell?, e0]
  have c1 : w1.cell? ⟨w.heap.size, 1, none⟩ = some (.int .u64 (x.word : Int)) := by simp [World.cell?, e0]
  have c2 : w1.cell? ⟨w.heap.size, 2, none⟩ = some (.string (str x.name)) := by simp [World.cell?, e0]
  have c3 : w1.cell? ⟨w.heap.size, 3, none⟩ = some (.slice p x.args.len c) := by simp [World.cell?, e0]
  have HB1 := Lib.hid hB1
  have HZ := Lib.hid hz1
  unfold Ex.val at HD HM ⊢
  have HR0 : Hid ((64 < x.depth ∨ x.may = false) → exprR x = [] ∧ exprE x = 2) := Lib.hid (fun h => by rw [exprR, exprE, if_pos h, if_pos h]; exact ⟨rfl, rfl⟩)
  have HR1 : Hid (¬ (64 < x.depth ∨ x.may = false) → exprR x = (if 65536 < x.text.length then [] else x.text) ∧ exprE x = (if 65536 < x.text.length then 3 else 0)) := Lib.hid (fun h => by rw [exprR, exprE, if_neg h, if_neg h]; exact ⟨rfl, rfl⟩)
  have HX6 := Lib.hid hl
  have HT : Hid (x.may = true → ∀ (m : Nat) (w2 : World), Below w1.heap.size w1 w2 → w2.heap[m]? = some (fmap signT) → Calls Tryz.prog 37 #[.agg #[.map (some m)], .pointer (some ⟨w.heap.size, 0, none⟩)] w2 fun e w' => e = .returned (.string (str x.text)) ∧ Below w2.heap.size w2 w') := Lib.hid (fun hm m w2 hB hmp =>
    exprText_any x hm w.heap.size 0 m w2 (by have := hB.size; omega) (HAt.out w2 hB) hmp (HG1.out.later hB) (hl hm))
  clear h hG hAt hOk1 hB1 e0 hl
  obtain ⟨d, hd⟩ : ∃ d, x.depth = d := ⟨_, rfl⟩
  obtain ⟨mb, hmb⟩ : ∃ mb, x.may = mb := ⟨_, rfl⟩
  obtain ⟨tx, htx⟩ : ∃ tx, x.text = tx := ⟨_, rfl⟩
  have hdl : d ≤ 1000000 := by rw [← hd]; exact Nat.le_trans (Ex.depth_le x) hx6
  rw [hd, hmb] at HR0 HR1
  rw [hd] at HD
  rw [hmb] at HM HT
  rw [htx] at HR1 HT
  have hszx := size_str tx
  clear hd hmb htx hx6
  go_enter Tryz.func10, Tryz.ntmps10
  go_wp2_with fail
  refine HD.out.mono ?_
  rintro e w2 ⟨rfl, hB2⟩
  have d0 := (hB2.cell (p := ⟨w.heap.size, 0, none⟩) (by show w.heap.size < _; omega)).trans c0
  have d1 := (hB2.cell (p := ⟨w.heap.size, 1, none⟩) (by show w.heap.size < _; omega)).trans c1
  have d2 := (hB2.cell (p := ⟨w.heap.size, 2, none⟩) (by show w.heap.size < _; omega)).trans c2
  have d3 := (hB2.cell (p := ⟨w.heap.size, 3, none⟩) (by show w.heap.size < _; omega)).trans c3
  have HB2 := Lib.hid hB2
  clear hB2
  by_cases h64 : 64 < d
  · have HF := Lib.hid (HR0.out (.inl h64))
    go_wp2_with fail
    go_ret2
    exact ⟨by rw [HF.out.1, HF.out.2]; rfl, HB1.out.trans (HB2.out.mono (by have := HZ.out; omega))⟩
  · have HM2 := Lib.hid (HM.out w2 HB2.out)
    cases mb
    · have HF := Lib.hid (HR0.out (.inr rfl))
      go_wp2_with fail
      refine HM2.out.mono ?_
      rintro e w3 ⟨rfl, hB3⟩
      have HB3 := Lib.hid (HB2.out.trans (hB3.mono HB2.out.size))
      clear hB3
      go_wp2_with fail
      go_ret2
      exact ⟨by rw [HF.out.1, HF.out.2]; rfl, HB1.out.trans (HB3.out.mono (by have := HZ.out; omega))⟩
    · have HF := Lib.hid (HR1.out (by simp; omega))
      go_wp2_with fail
      refine HM2.out.mono ?_
      rintro e w3 ⟨rfl, hB3⟩
      have HB3 := Lib.hid (HB2.out.trans (hB3.mono HB2.out.size))
      clear hB3
      go_wp2_with fail
      refine (newTeller_any _).mono ?_
      rintro e w4 ⟨m, rfl, hmp, hB4⟩
      have hB4' := HB3.out.trans (hB4.mono HB3.out.size)
      have HT4 := Lib.hid (HT.out trivial m w4 hB4' hmp)
      have HB4 := Lib.hid hB4'
      clear hB4 hmp hB4'
      go_wp2_with fail
      refine HT4.out.mono ?_
      rintro e w5 ⟨rfl, hB5⟩
      have HB5 := Lib.hid (HB4.out.trans (hB5.mono HB4.out.size))
      clear hB5
      by_cases hlong : 65536 < tx.length
      · have HF2 := HF.out
        rw [if_pos hlong, if_pos hlong] at HF2
        have HF2 := Lib.hid HF2
        go_wp2_with fail
        go_ret2
        exact ⟨by rw [HF2.out.1, HF2.out.2]; rfl, HB1.out.trans (HB5.out.mono (by have := HZ.out; omega))⟩
      · have HF2 := HF.out
        rw [if_neg hlong, if_neg hlong] at HF2
        have HF2 := Lib.hid HF2
        go_wp2_with fail
        go_ret2
        exact ⟨by rw [HF2.out.1, HF2.out.2]; rfl, HB1.out.trans (HB5.out.mono (by have := HZ.out; omega))⟩
end Go.Proofs.YtlhbledakddbbaaGreatDoor
/- FormatUint, at base 10. -/
namespace Go.Proofs.YtlhbledakddbbaaGreatDoor
open Go.RowKit Go.Sort Go.Lib

set_option maxHeartbeats 12800000 in
set_option maxRecDepth 100000 in
theorem innerFormatUint_any (u : Nat) (hu64 : u < 18446744073709551616) (w : World) (hG : Glob w) :
    Calls Tryz.prog 83 #[.int .u64 u, .int .i64 10] w fun e w' => e = .returned (.string (str (Lib.decDigits u))) ∧ Below w.heap.size w w' := by
  have htab := hG.here
  by_cases hu : u < 100
  · go_enter Tryz.func83, Tryz.ntmps83
    go_wp2_with (go_at_call 121; refine (Tryz.internal_strconv_small u hu _).mono ?_; rintro e w' ⟨rfl, rfl⟩)
    go_ret
    exact ⟨rfl, Below.refl _ _⟩
  · have hu1 : 1 ≤ u := by omega
    have hnd20 : Lib.nDigits u ≤ 20 := by have := Lib.numDigits_eq u hu1 hu64; split at this <;> omega
    have hal : Tryz.prog.arrayLen 156 = 24 := by simp [Program.arrayLen, Tryz.underlying156]
    have hsl : ∀ W, (Instr.sliceAt 156 (.pointer (some ⟨w.heap.size, 0, none⟩)) none (some (.int .i64 (Lib.nDigits u : Int))) none).run Tryz.prog W = .ok (.slice (some ⟨w.heap.size, 0, none⟩) (Lib.nDigits u) 24) W := fun W => by
      rw [run_sliceAt_array_h W 156 ⟨w.heap.size, 0, none⟩ (by simp [Program.arrayLen, Program.elem, Tryz.underlying156]) .i64 (Lib.nDigits u : Int) (by omega) (by rw [hal]; omega)]
      go_simp
    have hH0 := Lib.holds_zero0 w 156 (Lib.nDigits u) (by omega)
    have hfmt := Tryz.internal_strconv_formatBase10 w.heap.size 0 24 u (Array.replicate (Lib.nDigits u) 0) (w.alloc (.cells Lib.zeros24 156)) hH0 (by rw [Array.size_replicate]; exact Lib.lt_pow_nDigits u) hu64 (by rw [Array.size_replicate]; omega)
    rw [Array.size_replicate] at hfmt
    have HH0 := Lib.hid hH0
    have iu : (100 : Int) ≤ (u : Int) := by omega
    clear hH0 hal
    go_enter Tryz.func83, Tryz.ntmps83
    go_wp2_with (first
      | (go_at_call 122; refine (Tryz.internal_strconv_numDigits u hu1 hu64 _ (Lib.tabIs_alloc htab _)).mono ?_; rintro e w' ⟨rfl, rfl⟩))
    refine hfmt.mono ?_
    rintro e w' ⟨rfl, k, v', dk, rfl, hF⟩
    have hcv : (convert 83 9 (.slice (some ⟨w.heap.size, 0, none⟩) (Lib.nDigits u) 24)).run Tryz.prog ((putRow (fun (b : UInt8) => Value.int .u8 (b.toNat : Int)) (w.alloc (.cells Lib.zeros24 156)) w.heap.size 0 dk).drewN k) = .ok (.string (str (Lib.decDigits u))) ((putRow (fun (b : UInt8) => Value.int .u8 (b.toNat : Int)) (w.alloc (.cells Lib.zeros24 156)) w.heap.size 0 dk).drewN k) := by
      have h := run_convert_bytes_back (P := Tryz.prog) ((putRow (fun (b : UInt8) => Value.int .u8 (b.toNat : Int)) (w.alloc (.cells Lib.zeros24 156)) w.heap.size 0 dk).drewN k) 83 9 5 ⟨w.heap.size, 0, none⟩ 24 (Lib.decDigits u) Tryz.underlying83 Tryz.underlying5 Tryz.underlying9 (fun j hj => by
        rw [Lib.row_is_numeral hF j hj, Lib.add_plain, World.cell?_drewN]
        exact cell?_putRow (fun (b : UInt8) => Value.int .u8 (b.toNat : Int)) _ w.heap.size 0 _ dk HH0.out (by rw [hF.size, Array.size_replicate]) j (by rw [hF.size]; rw [Lib.decDigits_length] at hj; exact hj))
      rw [Lib.decDigits_length] at h
      exact h
    obtain ⟨os, eo⟩ := Lib.fin_at w (.cells Lib.zeros24 156) dk k 0
    have hnx2 : Below w.heap.size w ((putRow (fun (b : UInt8) => Value.int .u8 (b.toNat : Int)) (w.alloc (.cells Lib.zeros24 156)) w.heap.size 0 dk).drewN k) := by rw [eo]; exact Lib.below_grow w.heap.size w (Nat.le_refl _) k os
    have HB := Lib.hid hnx2
    generalize (putRow (fun (b : UInt8) => Value.int .u8 (b.toNat : Int)) (w.alloc (.cells Lib.zeros24 156)) w.heap.size 0 dk).drewN k = W2 at hcv HB ⊢
    clear eo HH0 hfmt hF hnx2
    go_wp2_with fail
    go_ret
    exact ⟨rfl, HB.out⟩
theorem formatUint_any (u : Nat) (hu64 : u < 18446744073709551616) (w : World) (hG : Glob w) :
    Calls Tryz.prog 40 #[.int .u64 u, .int .i64 10] w fun e w' => e = .returned (.string (str (Lib.decDigits u))) ∧ Below w.heap.size w w' := by
  have HC := Lib.hid (innerFormatUint_any u hu64 w hG)
  go_enter Tryz.func40, Tryz.ntmps40
  go_wp2_with fail
  refine HC.out.mono ?_
  rintro e w' ⟨rfl, hB⟩
  go_wp2_with fail
  go_ret
  exact ⟨rfl, hB⟩
end Go.Proofs.YtlhbledakddbbaaGreatDoor
/- The document's Sign. -/
namespace Go.Proofs.YtlhbledakddbbaaGreatDoor
open Go.RowKit

def hasSign (o : Int) : Bool := (fat signT o).isSome
def signL : Array Value := #[.string ⟨#[43]⟩, .string ⟨#[45]⟩, .string ⟨#[42]⟩, .string ⟨#[38]⟩, .string ⟨#[124]⟩, .string ⟨#[94]⟩, .string ⟨#[60, 60]⟩, .string ⟨#[62, 62]⟩, .string ⟨#[62, 62, 62]⟩, .string ⟨#[60, 60, 60]⟩, .string ⟨#[62, 62, 62, 62]⟩, .string ⟨#[61, 61]⟩, .string ⟨#[33, 61]⟩, .string ⟨#[60]⟩, .string ⟨#[60, 61]⟩]
theorem fifteen {o : Int} (h1 : 6 ≤ o) (h2 : o ≤ 20) : o = 6 ∨ o = 7 ∨ o = 8 ∨ o = 9 ∨ o = 10 ∨ o = 11 ∨ o = 12 ∨ o = 13 ∨ o = 14 ∨ o = 15 ∨ o = 16 ∨ o = 17 ∨ o = 18 ∨ o = 19 ∨ o = 20 := by omega
theorem sign_cell {o : Int} (h1 : 6 ≤ o) (h2 : o ≤ 20) : signL[(o - 6).toNat]? = some (.string (str (signOf o))) := by
  rcases fifteen h1 h2 with rfl | rfl | rfl | rfl | rfl | rfl | rfl | rfl | rfl | rfl | rfl | rfl | rfl | rfl | rfl <;> rfl
theorem has_sign {o : Int} (h1 : 6 ≤ o) (h2 : o ≤ 20) : hasSign o = true ∧ signOf o ≠ [] := by
  rcases fifteen h1 h2 with rfl | rfl | rfl | rfl | rfl | rfl | rfl | rfl | rfl | rfl | rfl | rfl | rfl | rfl | rfl <;> decide
theorem fat_none {o : Int} (h : o < 6 ∨ 20 < o) : fat signT o = none := by
  have hn : ∀ (l : List (Int × List UInt8)), (∀ x ∈ l, x.1 ≠ o) → fat l o = none := fun l => by
    induction l with
    | nil => intro _; rfl
    | cons x l ih =>
      intro h
      have h1 := h x (List.mem_cons_self ..)
      have h2 := ih fun y hy => h y (List.mem_cons_of_mem _ hy)
      simp [fat, h2, Ne.symm h1]
  refine hn _ ?_
  intro x hx
  have hx' : x.1 ∈ signT.map (·.1) := List.mem_map.2 ⟨x, hx, rfl⟩
  have : signT.map (·.1) = [6, 7, 8, 9, 10, 11, 12, 13, 14, 15, 16, 17, 18, 19, 20] := rfl
  rw [this] at hx'
  simp at hx'
  omega
theorem no_sign {o : Int} (h : o < 6 ∨ 20 < o) : hasSign o = false ∧ signOf o = [] := by
  unfold hasSign signOf
  rw [fat_none h]
  exact ⟨rfl, rfl⟩

set_option maxHeartbeats 1600000 in
theorem refSign_any (o : Int) (w : World) (h1 : -9223372036854775808 ≤ o) (h2 : o < 9223372036854775808) : Calls Tryz.prog 41 #[.int .i64 o] w fun e w' => e = .returned (.string (str (signOf o))) ∧ Below w.heap.size w w' := by
  have HB := Lib.hid (show Below w.heap.size w (w.alloc (.cells signL 9)) from (Below.refl _ w).alloc (Nat.le_refl _) _)
  by_cases h : o < 6 ∨ 20 < o
  · have hs := (no_sign h).2
    rw [hs]
    have hb : (decide (o < 6) || decide (20 < o)) = true := by simpa using h
    by_cases h6 : o < 6
    · go_enter Tryz.func41, Tryz.ntmps41
      go_wp2_with fail
      go_ret
      exact ⟨rfl, HB.out⟩
    · have h20 : 20 < o := by omega
      go_enter Tryz.func41, Tryz.ntmps41
      go_wp2_with fail
      go_ret
      exact ⟨rfl, HB.out⟩
  · have g6 : ¬ o < 6 := fun h' => h (.inl h')
    have g20 : ¬ 20 < o := fun h' => h (.inr h')
    have hc : (w.alloc (.cells signL 9)).cell? ⟨w.heap.size, (o - 6).toNat, none⟩ = some (.string (str (signOf o))) := by
      rw [World.cell?_alloc_new]; exact sign_cell (by omega) (by omega)
    obtain ⟨w1, hw1⟩ : ∃ w1, w.alloc (.cells signL 9) = w1 := ⟨_, rfl⟩
    rw [hw1] at hc HB
    unfold signL at hw1
    have hw : IntKind.i64.wrap (o - 6) = o - 6 := by simp [IntKind.wrap, IntKind.bits, IntKind.signed]; omega
    have b0 : (0 : Int) ≤ o - 6 := by omega
    have b1 : o - 6 < 15 := by omega
    go_enter Tryz.func41, Tryz.ntmps41
    go_wp2_with fail
    go_ret
    exact ⟨rfl, HB.out⟩
end Go.Proofs.YtlhbledakddbbaaGreatDoor
/- The text of an expression that may be: the document's Expr. -/
namespace Go.Proofs.YtlhbledakddbbaaGreatDoor
open Go.RowKit

theorem ret_strE {a b : ByteArray} (h : a = b) : Ending.returned (.string a) = .returned (.string b) := by rw [h]
theorem str_app (a b : List UInt8) : str a ++ str b = str (a ++ b) := ByteArray.mk_append_mk _ _
theorem add_str (a b : List UInt8) (h : a.length + b.length ≤ 9000000) (w : World) : (Op.stringOp .add (str a) (str b)).run Tryz.prog w = .ok (.string (str (a ++ b))) w := by
  rw [run_string_add_sum w _ _ (by rw [size_str, size_str]; omega), str_app]
def RE (n : Nat) : Prop := ∀ x : Ex, x.size < n → x.may = true → x.text.length ≤ 1000000 → ∀ (p : Option Addr) (c N : Nat) (w : World), x.Ok w N p → N ≤ w.heap.size → Glob w →
    Calls Tryz.prog 15 #[x.val p c] w fun e w' => e = .returned (.string (str x.text)) ∧ Below w.heap.size w w'

set_option maxRecDepth 100000 in
set_option maxHeartbeats 6400000 in
theorem re_index (n : Nat) (ih : RE n) (wd : Nat) (nm : List UInt8) (b2 o2 c N : Nat) (w : World) (hG : Glob w) (hN : N ≤ w.heap.size) (hbN : b2 < N) (y0 : Ex) (hs0 : y0.size < n) (hm0 : y0.may = true) (hy0 : y0.At w N b2 (o2)) (hl : (Ex.mk 3 wd nm (.cons y0 .nil)).text.length ≤ 1000000) :
    Calls Tryz.prog 15 #[.agg #[.int .i64 3, .int .u64 (wd : Int), .string (str nm), .slice (some ⟨b2, o2, none⟩) 1 c]] w fun e w' => e = .returned (.string (str (Ex.mk 3 wd nm (.cons y0 .nil)).text)) ∧ Below w.heap.size w w' := by
  have ht : (Ex.mk 3 wd nm (.cons y0 .nil)).text = (nm ++ [91] ++ y0.text) ++ [93] := rfl
  have hlen : nm.length + y0.text.length ≤ 1000000 := by rw [ht] at hl; simp at hl; omega
  obtain ⟨W1, hW1⟩ : ∃ W1, w.alloc (.cells #[.int .i64 3, .int .u64 (wd : Int), .string (str nm), .slice (some ⟨b2, o2, none⟩) 1 c] 26) = W1 := ⟨_, rfl⟩
  have HB1 := Lib.hid (show Below w.heap.size w W1 by rw [← hW1]; exact (Below.refl _ _).alloc (Nat.le_refl _) _)
  have HX := Lib.hid (fun w1 hb => cells_later (w0 := W1) (w1 := w1) (b := w.heap.size) (A := #[.int .i64 3, .int .u64 (wd : Int), .string (str nm), .slice (some ⟨b2, o2, none⟩) 1 c]) (t := 26) (by rw [← hW1]; exact heap_alloc_new w _) hb)
  have x0 : W1.cell? ⟨w.heap.size, 0, none⟩ = some (.int .i64 3) := HX.out _ (Below.refl _ _) 0 _ rfl
  have x1 : W1.cell? ⟨w.heap.size, 1, none⟩ = some (.int .u64 (wd : Int)) := HX.out _ (Below.refl _ _) 1 _ rfl
  have x2 : W1.cell? ⟨w.heap.size, 2, none⟩ = some (.string (str nm)) := HX.out _ (Below.refl _ _) 2 _ rfl
  have x3 : W1.cell? ⟨w.heap.size, 3, none⟩ = some (.slice (some ⟨b2, o2, none⟩) 1 c) := HX.out _ (Below.refl _ _) 3 _ rfl
  have hbw : b2 < w.heap.size := by omega
  have hb2 : b2 < W1.heap.size := by have := HB1.out.size; omega
  obtain ⟨q0, c0, e00, e01, e02, e03, ok0⟩ := hy0.open'
  have d00 : W1.cell? ⟨b2, o2, none⟩ = some (.int .i64 y0.op) := (HB1.out.cell hbw).trans e00
  have d01 : W1.cell? ⟨b2, o2 + 1, none⟩ = some (.int .u64 (y0.word : Int)) := (HB1.out.cell hbw).trans e01
  have d02 : W1.cell? ⟨b2, o2 + 2, none⟩ = some (.string (str y0.name)) := (HB1.out.cell hbw).trans e02
  have d03 : W1.cell? ⟨b2, o2 + 3, none⟩ = some (.slice q0 y0.args.len c0) := (HB1.out.cell hbw).trans e03
  have HC0 := Lib.hid (fun (w1 : World) (hb : Below W1.heap.size W1 w1) => ih y0 hs0 hm0 (by omega) q0 c0 w1.heap.size w1 (ok0.later ((HB1.out.trans (hb.mono HB1.out.size)).mono hN) (Nat.le_trans hN (HB1.out.trans (hb.mono HB1.out.size)).size)) (Nat.le_refl _) (hG.later (HB1.out.trans (hb.mono HB1.out.size))))
  unfold Ex.val at HC0
  clear e00 e01 e02 e03 ok0 hy0 hs0 hm0
  obtain ⟨A0, hA0⟩ : ∃ A, A = str y0.text := ⟨_, rfl⟩
  rw [← hA0] at HC0
  obtain ⟨B2, hB2⟩ : ∃ B, B = str (nm ++ [91]) := ⟨_, rfl⟩
  obtain ⟨B8, hB8⟩ : ∃ B, B = str ((nm ++ [91]) ++ y0.text) := ⟨_, rfl⟩
  obtain ⟨B9, hB9⟩ : ∃ B, B = str ((nm ++ [91] ++ y0.text) ++ [93]) := ⟨_, rfl⟩
  have qB2 : ∀ w : World, (Op.stringOp .add (str nm) ⟨#[91]⟩).run Tryz.prog w = .ok (.string B2) w := fun w => by
    (try rw [hB2]); (try rw [Nat.add_zero]); (try rw [Nat.add_zero]); exact add_str (nm) ([91]) (by simp; omega) w
  have qB8 : ∀ w : World, (Op.stringOp .add B2 A0).run Tryz.prog w = .ok (.string B8) w := fun w => by
    (try rw [hB8]); (try rw [hB2]); (try rw [hA0]); exact add_str ((nm ++ [91])) (y0.text) (by simp; omega) w
  have qB9 : ∀ w : World, (Op.stringOp .add B8 ⟨#[93]⟩).run Tryz.prog w = .ok (.string B9) w := fun w => by
    (try rw [hB9]); (try rw [hB8]); (try rw [Nat.add_zero]); exact add_str ((nm ++ [91] ++ y0.text)) ([93]) (by simp; omega) w
  have HF := Lib.hid (show str (Ex.mk 3 wd nm (.cons y0 .nil)).text = B9 by rw [ht, hB9])
  clear hA0 hB2 hB8 hB9
  clear hl ht ih hG
  go_enter Tryz.func15, Tryz.ntmps15
  go_wp2_with fail
  clear hW1 x0 x1 x2 x3
  have HS : Below W1.heap.size W1 W1.drew := (Below.refl _ _).drew
  refine wp_region_held_drew (S := fun W => Below W1.heap.size W1 W ∧ W.cell? ⟨w.heap.size, 2, none⟩ = some (.string (str nm)) ∧ W.cell? ⟨w.heap.size, 3, none⟩ = some (.slice (some ⟨b2, o2, none⟩) 1 c) ∧ W.cell? ⟨b2, o2, none⟩ = some (.int .i64 y0.op) ∧ W.cell? ⟨b2, o2 + 1, none⟩ = some (.int .u64 (y0.word : Int)) ∧ W.cell? ⟨b2, o2 + 2, none⟩ = some (.string (str y0.name)) ∧ W.cell? ⟨b2, o2 + 3, none⟩ = some (.slice q0 y0.args.len c0)) (by kernel_rfl) ?_ (fun hHeld => ?_)
  · exact ⟨HS, HX.out _ HS 2 _ rfl, HX.out _ HS 3 _ rfl, (HS.cell hb2).trans d00, (HS.cell hb2).trans d01, (HS.cell hb2).trans d02, (HS.cell hb2).trans d03⟩
  refine wpAnyH_take (i := 0) (oi := { dst := Option.some 16, op := Go.Op.fieldAddr 26 (Go.Operand.tmp 1) 2, type := 0, pos := "ref.go:213", after := #[], guard := Option.none }) (v := ?_) rfl (by kernel_rfl) (by kernel_rfl) (by kernel_rfl) (fun _ _ _ h => h) (Or.inl ⟨by rfl, ?_⟩) (by assumption) ?_
  rotate_left
  · (intro w hSw; (try dsimp only at hSw); go_simp; try with_reducible rfl)
  try simp only [Act.put, List.setIfInBounds_toArray, List.set_cons_zero, List.set_cons_succ]
  refine wpAnyH_take (i := 1) (oi := { dst := Option.some 17, op := Go.Op.load 9 (Go.Operand.tmp 16), type := 9, pos := "ref.go:213", after := #[{ on := 0, ground := Go.Ground.data }], guard := Option.none }) (v := ?_) rfl (by kernel_rfl) (by kernel_rfl) (by kernel_rfl) (fun _ _ _ h => h) (Or.inl ⟨by rfl, ?_⟩) (by assumption) ?_
  rotate_left
  · (intro w hSw; (try dsimp only at hSw); go_simp; try with_reducible rfl)
  try simp only [Act.put, List.setIfInBounds_toArray, List.set_cons_zero, List.set_cons_succ]
  refine wpAnyH_take (i := 3) (oi := { dst := Option.some 19, op := Go.Op.fieldAddr 26 (Go.Operand.tmp 1) 3, type := 0, pos := "ref.go:213", after := #[], guard := Option.none }) (v := ?_) rfl (by kernel_rfl) (by kernel_rfl) (by kernel_rfl) (fun _ _ _ h => h) (Or.inl ⟨by rfl, ?_⟩) (by assumption) ?_
  rotate_left
  · (intro w hSw; (try dsimp only at hSw); go_simp; try with_reducible rfl)
  try simp only [Act.put, List.setIfInBounds_toArray, List.set_cons_zero, List.set_cons_succ]
  refine wpAnyH_take (i := 4) (oi := { dst := Option.some 20, op := Go.Op.load 24 (Go.Operand.tmp 19), type := 24, pos := "ref.go:213", after := #[{ on := 3, ground := Go.Ground.data }], guard := Option.none }) (v := ?_) rfl (by kernel_rfl) (by kernel_rfl) (by kernel_rfl) (fun _ _ _ h => h) (Or.inl ⟨by rfl, ?_⟩) (by assumption) ?_
  rotate_left
  · (intro w hSw; (try dsimp only at hSw); go_simp; try with_reducible rfl)
  try simp only [Act.put, List.setIfInBounds_toArray, List.set_cons_zero, List.set_cons_succ]
  refine wpAnyH_take (i := 5) (oi := { dst := Option.some 21, op := Go.Op.indexAddr 24 (Go.Operand.tmp 20) (Go.Operand.const (Go.Value.int Go.IntKind.i64 0)), type := 0, pos := "ref.go:213", after := #[{ on := 4, ground := Go.Ground.data }], guard := Option.none }) (v := ?_) rfl (by kernel_rfl) (by kernel_rfl) (by kernel_rfl) (fun _ _ _ h => h) (Or.inl ⟨by rfl, ?_⟩) (by assumption) ?_
  rotate_left
  · (intro w hSw; (try dsimp only at hSw); go_simp; try with_reducible rfl)
  try simp only [Act.put, List.setIfInBounds_toArray, List.set_cons_zero, List.set_cons_succ]
  refine wpAnyH_take (i := 6) (oi := { dst := Option.some 22, op := Go.Op.load 26 (Go.Operand.tmp 21), type := 26, pos := "ref.go:213", after := #[{ on := 5, ground := Go.Ground.data }], guard := Option.none }) (v := ?_) rfl (by kernel_rfl) (by kernel_rfl) (by kernel_rfl) (fun _ _ _ h => h) (Or.inl ⟨by rfl, ?_⟩) (by assumption) ?_
  rotate_left
  · (intro w hSw; (try dsimp only at hSw); go_simp; try with_reducible rfl)
  try simp only [Act.put, List.setIfInBounds_toArray, List.set_cons_zero, List.set_cons_succ]
  refine wpAnyH_take (i := 2) (oi := { dst := Option.some 18, op := Go.Op.binOp Go.BinOp.add 9 (Go.Operand.tmp 17) (Go.Operand.const (Go.Value.string { data := #[91] })) 9, type := 9, pos := "ref.go:213", after := #[{ on := 1, ground := Go.Ground.data }], guard := Option.none }) (v := .string B2) rfl (by kernel_rfl) (by kernel_rfl) (by kernel_rfl) (fun _ _ _ h => h) (Or.inl ⟨by rfl, ?_⟩) (by assumption) ?_
  · (intro w hSw; (try dsimp only at hSw); go_simp)
  try simp only [Act.put, List.setIfInBounds_toArray, List.set_cons_zero, List.set_cons_succ]
  refine wpAnyH_ready (rs := [7]) (by kernel_rfl) (by simp) ?_
  refine AllReadyH.cons (o := { dst := Option.some 23, op := Go.Op.call { callee := Go.Callee.value (Go.Operand.func 15), args := #[Go.Operand.tmp 22], argTypes := #[26] }, type := 9, pos := "ref.go:213", after := #[{ on := 6, ground := Go.Ground.data }], guard := Option.none }) rfl (fun K hK => ?_) AllReadyH.nil
  go_simp
  refine (HC0.out _ HS).mono ?_
  rintro z wa ⟨rfl, hB'⟩
  replace HS := HS.trans (hB'.mono HS.size)
  clear hB'
  refine hK.out _ _ ?_ (fun hHeld => ?_)
  · exact ⟨HS, HX.out _ HS 2 _ rfl, HX.out _ HS 3 _ rfl, (HS.cell hb2).trans d00, (HS.cell hb2).trans d01, (HS.cell hb2).trans d02, (HS.cell hb2).trans d03⟩
  clear hK K
  try simp only [Act.put, List.setIfInBounds_toArray, List.set_cons_zero, List.set_cons_succ]
  refine wpAnyH_take (i := 8) (oi := { dst := Option.some 24, op := Go.Op.binOp Go.BinOp.add 9 (Go.Operand.tmp 18) (Go.Operand.tmp 23) 9, type := 9, pos := "ref.go:213", after := #[{ on := 2, ground := Go.Ground.data }, { on := 7, ground := Go.Ground.data }], guard := Option.none }) (v := .string B8) rfl (by kernel_rfl) (by kernel_rfl) (by kernel_rfl) (fun _ _ _ h => h) (Or.inl ⟨by rfl, ?_⟩) (by assumption) ?_
  · (intro w hSw; (try dsimp only at hSw); go_simp)
  try simp only [Act.put, List.setIfInBounds_toArray, List.set_cons_zero, List.set_cons_succ]
  refine wpAnyH_take (i := 9) (oi := { dst := Option.some 25, op := Go.Op.binOp Go.BinOp.add 9 (Go.Operand.tmp 24) (Go.Operand.const (Go.Value.string { data := #[93] })) 9, type := 9, pos := "ref.go:213", after := #[{ on := 8, ground := Go.Ground.data }], guard := Option.none }) (v := .string B9) rfl (by kernel_rfl) (by kernel_rfl) (by kernel_rfl) (fun _ _ _ h => h) (Or.inl ⟨by rfl, ?_⟩) (by assumption) ?_
  · (intro w hSw; (try dsimp only at hSw); go_simp)
  try simp only [Act.put, List.setIfInBounds_toArray, List.set_cons_zero, List.set_cons_succ]
  refine wpAnyH_take (i := 10) (oi := { dst := Option.some 2, op := Go.Op.assign (Go.Operand.tmp 25), type := 9, pos := "ref.go:213", after := #[{ on := 9, ground := Go.Ground.data }, { on := 7, ground := Go.Ground.chain }, { on := 0, ground := Go.Ground.phase }, { on := 1, ground := Go.Ground.phase }, { on := 2, ground := Go.Ground.phase }, { on := 3, ground := Go.Ground.phase }, { on := 4, ground := Go.Ground.phase }, { on := 5, ground := Go.Ground.phase }, { on := 6, ground := Go.Ground.phase }, { on := 7, ground := Go.Ground.phase }, { on := 8, ground := Go.Ground.phase }, { on := 9, ground := Go.Ground.phase }], guard := Option.none }) (v := ?_) rfl (by kernel_rfl) (by kernel_rfl) (by kernel_rfl) (fun _ _ _ h => h) (Or.inl ⟨by rfl, ?_⟩) (by assumption) ?_
  rotate_left
  · (intro w hSw; (try dsimp only at hSw); go_simp; try with_reducible rfl)
  try simp only [Act.put, List.setIfInBounds_toArray, List.set_cons_zero, List.set_cons_succ]
  refine wpAnyH_done (by kernel_rfl) ?_ _
  have HE := Lib.hid (HB1.out.trans (HS.mono HB1.out.size))
  go_wp2_with fail
  go_ret
  exact ⟨ret_strE HF.out.symm, HE.out⟩

set_option maxRecDepth 100000 in
set_option maxHeartbeats 6400000 in
theorem re_not (n : Nat) (ih : RE n) (wd : Nat) (nm : List UInt8) (b2 o2 c N : Nat) (w : World) (hG : Glob w) (hN : N ≤ w.heap.size) (hbN : b2 < N) (y0 : Ex) (hs0 : y0.size < n) (hm0 : y0.may = true) (hy0 : y0.At w N b2 (o2)) (hl : (Ex.mk 4 wd nm (.cons y0 .nil)).text.length ≤ 1000000) :
    Calls Tryz.prog 15 #[.agg #[.int .i64 4, .int .u64 (wd : Int), .string (str nm), .slice (some ⟨b2, o2, none⟩) 1 c]] w fun e w' => e = .returned (.string (str (Ex.mk 4 wd nm (.cons y0 .nil)).text)) ∧ Below w.heap.size w w' := by
  have ht : (Ex.mk 4 wd nm (.cons y0 .nil)).text = [126] ++ y0.text := rfl
  have hlen : y0.text.length ≤ 1000000 := by rw [ht] at hl; simp at hl; omega
  obtain ⟨W1, hW1⟩ : ∃ W1, w.alloc (.cells #[.int .i64 4, .int .u64 (wd : Int), .string (str nm), .slice (some ⟨b2, o2, none⟩) 1 c] 26) = W1 := ⟨_, rfl⟩
  have HB1 := Lib.hid (show Below w.heap.size w W1 by rw [← hW1]; exact (Below.refl _ _).alloc (Nat.le_refl _) _)
  have HX := Lib.hid (fun w1 hb => cells_later (w0 := W1) (w1 := w1) (b := w.heap.size) (A := #[.int .i64 4, .int .u64 (wd : Int), .string (str nm), .slice (some ⟨b2, o2, none⟩) 1 c]) (t := 26) (by rw [← hW1]; exact heap_alloc_new w _) hb)
  have x0 : W1.cell? ⟨w.heap.size, 0, none⟩ = some (.int .i64 4) := HX.out _ (Below.refl _ _) 0 _ rfl
  have x1 : W1.cell? ⟨w.heap.size, 1, none⟩ = some (.int .u64 (wd : Int)) := HX.out _ (Below.refl _ _) 1 _ rfl
  have x2 : W1.cell? ⟨w.heap.size, 2, none⟩ = some (.string (str nm)) := HX.out _ (Below.refl _ _) 2 _ rfl
  have x3 : W1.cell? ⟨w.heap.size, 3, none⟩ = some (.slice (some ⟨b2, o2, none⟩) 1 c) := HX.out _ (Below.refl _ _) 3 _ rfl
  have hbw : b2 < w.heap.size := by omega
  have hb2 : b2 < W1.heap.size := by have := HB1.out.size; omega
  obtain ⟨q0, c0, e00, e01, e02, e03, ok0⟩ := hy0.open'
  have d00 : W1.cell? ⟨b2, o2, none⟩ = some (.int .i64 y0.op) := (HB1.out.cell hbw).trans e00
  have d01 : W1.cell? ⟨b2, o2 + 1, none⟩ = some (.int .u64 (y0.word : Int)) := (HB1.out.cell hbw).trans e01
  have d02 : W1.cell? ⟨b2, o2 + 2, none⟩ = some (.string (str y0.name)) := (HB1.out.cell hbw).trans e02
  have d03 : W1.cell? ⟨b2, o2 + 3, none⟩ = some (.slice q0 y0.args.len c0) := (HB1.out.cell hbw).trans e03
  have HC0 := Lib.hid (fun (w1 : World) (hb : Below W1.heap.size W1 w1) => ih y0 hs0 hm0 (by omega) q0 c0 w1.heap.size w1 (ok0.later ((HB1.out.trans (hb.mono HB1.out.size)).mono hN) (Nat.le_trans hN (HB1.out.trans (hb.mono HB1.out.size)).size)) (Nat.le_refl _) (hG.later (HB1.out.trans (hb.mono HB1.out.size))))
  unfold Ex.val at HC0
  clear e00 e01 e02 e03 ok0 hy0 hs0 hm0
  obtain ⟨A0, hA0⟩ : ∃ A, A = str y0.text := ⟨_, rfl⟩
  rw [← hA0] at HC0
  obtain ⟨B2, hB2⟩ : ∃ B, B = str ([126] ++ y0.text) := ⟨_, rfl⟩
  have qB2 : ∀ w : World, (Op.stringOp .add ⟨#[126]⟩ A0).run Tryz.prog w = .ok (.string B2) w := fun w => by
    (try rw [hB2]); (try rw [Nat.add_zero]); (try rw [hA0]); exact add_str ([126]) (y0.text) (by simp; omega) w
  have HF := Lib.hid (show str (Ex.mk 4 wd nm (.cons y0 .nil)).text = B2 by rw [ht, hB2])
  clear hA0 hB2
  clear hl ht ih hG
  go_enter Tryz.func15, Tryz.ntmps15
  go_wp2_with fail
  refine (HC0.out _ (Below.refl _ _)).mono ?_
  rintro e w2 ⟨rfl, hB⟩
  have HE := Lib.hid (HB1.out.trans (hB.mono HB1.out.size))
  clear hB
  go_wp2_with fail
  go_ret
  exact ⟨ret_strE HF.out.symm, HE.out⟩

set_option maxRecDepth 100000 in
set_option maxHeartbeats 6400000 in
theorem re_neg (n : Nat) (ih : RE n) (wd : Nat) (nm : List UInt8) (b2 o2 c N : Nat) (w : World) (hG : Glob w) (hN : N ≤ w.heap.size) (hbN : b2 < N) (y0 : Ex) (hs0 : y0.size < n) (hm0 : y0.may = true) (hy0 : y0.At w N b2 (o2)) (hl : (Ex.mk 5 wd nm (.cons y0 .nil)).text.length ≤ 1000000) :
    Calls Tryz.prog 15 #[.agg #[.int .i64 5, .int .u64 (wd : Int), .string (str nm), .slice (some ⟨b2, o2, none⟩) 1 c]] w fun e w' => e = .returned (.string (str (Ex.mk 5 wd nm (.cons y0 .nil)).text)) ∧ Below w.heap.size w w' := by
  have ht : (Ex.mk 5 wd nm (.cons y0 .nil)).text = [45] ++ y0.text := rfl
  have hlen : y0.text.length ≤ 1000000 := by rw [ht] at hl; simp at hl; omega
  obtain ⟨W1, hW1⟩ : ∃ W1, w.alloc (.cells #[.int .i64 5, .int .u64 (wd : Int), .string (str nm), .slice (some ⟨b2, o2, none⟩) 1 c] 26) = W1 := ⟨_, rfl⟩
  have HB1 := Lib.hid (show Below w.heap.size w W1 by rw [← hW1]; exact (Below.refl _ _).alloc (Nat.le_refl _) _)
  have HX := Lib.hid (fun w1 hb => cells_later (w0 := W1) (w1 := w1) (b := w.heap.size) (A := #[.int .i64 5, .int .u64 (wd : Int), .string (str nm), .slice (some ⟨b2, o2, none⟩) 1 c]) (t := 26) (by rw [← hW1]; exact heap_alloc_new w _) hb)
  have x0 : W1.cell? ⟨w.heap.size, 0, none⟩ = some (.int .i64 5) := HX.out _ (Below.refl _ _) 0 _ rfl
  have x1 : W1.cell? ⟨w.heap.size, 1, none⟩ = some (.int .u64 (wd : Int)) := HX.out _ (Below.refl _ _) 1 _ rfl
  have x2 : W1.cell? ⟨w.heap.size, 2, none⟩ = some (.string (str nm)) := HX.out _ (Below.refl _ _) 2 _ rfl
  have x3 : W1.cell? ⟨w.heap.size, 3, none⟩ = some (.slice (some ⟨b2, o2, none⟩) 1 c) := HX.out _ (Below.refl _ _) 3 _ rfl
  have hbw : b2 < w.heap.size := by omega
  have hb2 : b2 < W1.heap.size := by have := HB1.out.size; omega
  obtain ⟨q0, c0, e00, e01, e02, e03, ok0⟩ := hy0.open'
  have d00 : W1.cell? ⟨b2, o2, none⟩ = some (.int .i64 y0.op) := (HB1.out.cell hbw).trans e00
  have d01 : W1.cell? ⟨b2, o2 + 1, none⟩ = some (.int .u64 (y0.word : Int)) := (HB1.out.cell hbw).trans e01
  have d02 : W1.cell? ⟨b2, o2 + 2, none⟩ = some (.string (str y0.name)) := (HB1.out.cell hbw).trans e02
  have d03 : W1.cell? ⟨b2, o2 + 3, none⟩ = some (.slice q0 y0.args.len c0) := (HB1.out.cell hbw).trans e03
  have HC0 := Lib.hid (fun (w1 : World) (hb : Below W1.heap.size W1 w1) => ih y0 hs0 hm0 (by omega) q0 c0 w1.heap.size w1 (ok0.later ((HB1.out.trans (hb.mono HB1.out.size)).mono hN) (Nat.le_trans hN (HB1.out.trans (hb.mono HB1.out.size)).size)) (Nat.le_refl _) (hG.later (HB1.out.trans (hb.mono HB1.out.size))))
  unfold Ex.val at HC0
  clear e00 e01 e02 e03 ok0 hy0 hs0 hm0
  obtain ⟨A0, hA0⟩ : ∃ A, A = str y0.text := ⟨_, rfl⟩
  rw [← hA0] at HC0
  obtain ⟨B2, hB2⟩ : ∃ B, B = str ([45] ++ y0.text) := ⟨_, rfl⟩
  have qB2 : ∀ w : World, (Op.stringOp .add ⟨#[45]⟩ A0).run Tryz.prog w = .ok (.string B2) w := fun w => by
    (try rw [hB2]); (try rw [Nat.add_zero]); (try rw [hA0]); exact add_str ([45]) (y0.text) (by simp; omega) w
  have HF := Lib.hid (show str (Ex.mk 5 wd nm (.cons y0 .nil)).text = B2 by rw [ht, hB2])
  clear hA0 hB2
  clear hl ht ih hG
  go_enter Tryz.func15, Tryz.ntmps15
  go_wp2_with fail
  refine (HC0.out _ (Below.refl _ _)).mono ?_
  rintro e w2 ⟨rfl, hB⟩
  have HE := Lib.hid (HB1.out.trans (hB.mono HB1.out.size))
  clear hB
  go_wp2_with fail
  go_ret
  exact ⟨ret_strE HF.out.symm, HE.out⟩

set_option maxRecDepth 100000 in
set_option maxHeartbeats 6400000 in
theorem re_pick (n : Nat) (ih : RE n) (wd : Nat) (nm : List UInt8) (b2 o2 c N : Nat) (w : World) (hG : Glob w) (hN : N ≤ w.heap.size) (hbN : b2 < N) (y0 : Ex) (hs0 : y0.size < n) (hm0 : y0.may = true) (hy0 : y0.At w N b2 (o2)) (y1 : Ex) (hs1 : y1.size < n) (hm1 : y1.may = true) (hy1 : y1.At w N b2 (o2 + 4)) (y2 : Ex) (hs2 : y2.size < n) (hm2 : y2.may = true) (hy2 : y2.At w N b2 (o2 + 8)) (hl : (Ex.mk 21 wd nm (.cons y0 (.cons y1 (.cons y2 .nil)))).text.length ≤ 1000000) :
    Calls Tryz.prog 15 #[.agg #[.int .i64 21, .int .u64 (wd : Int), .string (str nm), .slice (some ⟨b2, o2, none⟩) 3 c]] w fun e w' => e = .returned (.string (str (Ex.mk 21 wd nm (.cons y0 (.cons y1 (.cons y2 .nil)))).text)) ∧ Below w.heap.size w w' := by
  have ht : (Ex.mk 21 wd nm (.cons y0 (.cons y1 (.cons y2 .nil)))).text = ((((([112, 105, 99, 107, 40] ++ y0.text) ++ [44, 32]) ++ y1.text) ++ [44, 32]) ++ y2.text) ++ [41] := by
    rw [Ex.text, textOf, if_neg (by omega), if_neg (by omega), if_neg (by omega), if_neg (by omega), if_neg (by omega), if_pos rfl]
    simp [Exs.texts, Lib.join]
  have hlen : y0.text.length + y1.text.length + y2.text.length ≤ 1000000 := by rw [ht] at hl; simp at hl; omega
  obtain ⟨W1, hW1⟩ : ∃ W1, w.alloc (.cells #[.int .i64 21, .int .u64 (wd : Int), .string (str nm), .slice (some ⟨b2, o2, none⟩) 3 c] 26) = W1 := ⟨_, rfl⟩
  have HB1 := Lib.hid (show Below w.heap.size w W1 by rw [← hW1]; exact (Below.refl _ _).alloc (Nat.le_refl _) _)
  have HX := Lib.hid (fun w1 hb => cells_later (w0 := W1) (w1 := w1) (b := w.heap.size) (A := #[.int .i64 21, .int .u64 (wd : Int), .string (str nm), .slice (some ⟨b2, o2, none⟩) 3 c]) (t := 26) (by rw [← hW1]; exact heap_alloc_new w _) hb)
  have x0 : W1.cell? ⟨w.heap.size, 0, none⟩ = some (.int .i64 21) := HX.out _ (Below.refl _ _) 0 _ rfl
  have x1 : W1.cell? ⟨w.heap.size, 1, none⟩ = some (.int .u64 (wd : Int)) := HX.out _ (Below.refl _ _) 1 _ rfl
  have x2 : W1.cell? ⟨w.heap.size, 2, none⟩ = some (.string (str nm)) := HX.out _ (Below.refl _ _) 2 _ rfl
  have x3 : W1.cell? ⟨w.heap.size, 3, none⟩ = some (.slice (some ⟨b2, o2, none⟩) 3 c) := HX.out _ (Below.refl _ _) 3 _ rfl
  have hbw : b2 < w.heap.size := by omega
  have hb2 : b2 < W1.heap.size := by have := HB1.out.size; omega
  obtain ⟨q0, c0, e00, e01, e02, e03, ok0⟩ := hy0.open'
  have d00 : W1.cell? ⟨b2, o2, none⟩ = some (.int .i64 y0.op) := (HB1.out.cell hbw).trans e00
  have d01 : W1.cell? ⟨b2, o2 + 1, none⟩ = some (.int .u64 (y0.word : Int)) := (HB1.out.cell hbw).trans e01
  have d02 : W1.cell? ⟨b2, o2 + 2, none⟩ = some (.string (str y0.name)) := (HB1.out.cell hbw).trans e02
  have d03 : W1.cell? ⟨b2, o2 + 3, none⟩ = some (.slice q0 y0.args.len c0) := (HB1.out.cell hbw).trans e03
  have HC0 := Lib.hid (fun (w1 : World) (hb : Below W1.heap.size W1 w1) => ih y0 hs0 hm0 (by omega) q0 c0 w1.heap.size w1 (ok0.later ((HB1.out.trans (hb.mono HB1.out.size)).mono hN) (Nat.le_trans hN (HB1.out.trans (hb.mono HB1.out.size)).size)) (Nat.le_refl _) (hG.later (HB1.out.trans (hb.mono HB1.out.size))))
  unfold Ex.val at HC0
  obtain ⟨q1, c1, e10, e11, e12, e13, ok1⟩ := hy1.open'
  have d10 : W1.cell? ⟨b2, o2 + 4, none⟩ = some (.int .i64 y1.op) := (HB1.out.cell hbw).trans e10
  have d11 : W1.cell? ⟨b2, o2 + 4 + 1, none⟩ = some (.int .u64 (y1.word : Int)) := (HB1.out.cell hbw).trans e11
  have d12 : W1.cell? ⟨b2, o2 + 4 + 2, none⟩ = some (.string (str y1.name)) := (HB1.out.cell hbw).trans e12
  have d13 : W1.cell? ⟨b2, o2 + 4 + 3, none⟩ = some (.slice q1 y1.args.len c1) := (HB1.out.cell hbw).trans e13
  have HC1 := Lib.hid (fun (w1 : World) (hb : Below W1.heap.size W1 w1) => ih y1 hs1 hm1 (by omega) q1 c1 w1.heap.size w1 (ok1.later ((HB1.out.trans (hb.mono HB1.out.size)).mono hN) (Nat.le_trans hN (HB1.out.trans (hb.mono HB1.out.size)).size)) (Nat.le_refl _) (hG.later (HB1.out.trans (hb.mono HB1.out.size))))
  unfold Ex.val at HC1
  obtain ⟨q2, c2, e20, e21, e22, e23, ok2⟩ := hy2.open'
  have d20 : W1.cell? ⟨b2, o2 + 8, none⟩ = some (.int .i64 y2.op) := (HB1.out.cell hbw).trans e20
  have d21 : W1.cell? ⟨b2, o2 + 8 + 1, none⟩ = some (.int .u64 (y2.word : Int)) := (HB1.out.cell hbw).trans e21
  have d22 : W1.cell? ⟨b2, o2 + 8 + 2, none⟩ = some (.string (str y2.name)) := (HB1.out.cell hbw).trans e22
  have d23 : W1.cell? ⟨b2, o2 + 8 + 3, none⟩ = some (.slice q2 y2.args.len c2) := (HB1.out.cell hbw).trans e23
  have HC2 := Lib.hid (fun (w1 : World) (hb : Below W1.heap.size W1 w1) => ih y2 hs2 hm2 (by omega) q2 c2 w1.heap.size w1 (ok2.later ((HB1.out.trans (hb.mono HB1.out.size)).mono hN) (Nat.le_trans hN (HB1.out.trans (hb.mono HB1.out.size)).size)) (Nat.le_refl _) (hG.later (HB1.out.trans (hb.mono HB1.out.size))))
  unfold Ex.val at HC2
  clear e00 e01 e02 e03 e10 e11 e12 e13 e20 e21 e22 e23 ok0 hy0 hs0 hm0 ok1 hy1 hs1 hm1 ok2 hy2 hs2 hm2
  obtain ⟨A0, hA0⟩ : ∃ A, A = str y0.text := ⟨_, rfl⟩
  rw [← hA0] at HC0
  obtain ⟨A1, hA1⟩ : ∃ A, A = str y1.text := ⟨_, rfl⟩
  rw [← hA1] at HC1
  obtain ⟨A2, hA2⟩ : ∃ A, A = str y2.text := ⟨_, rfl⟩
  rw [← hA2] at HC2
  obtain ⟨B5, hB5⟩ : ∃ B, B = str ([112, 105, 99, 107, 40] ++ y0.text) := ⟨_, rfl⟩
  obtain ⟨B6, hB6⟩ : ∃ B, B = str (([112, 105, 99, 107, 40] ++ y0.text) ++ [44, 32]) := ⟨_, rfl⟩
  obtain ⟨B12, hB12⟩ : ∃ B, B = str ((([112, 105, 99, 107, 40] ++ y0.text) ++ [44, 32]) ++ y1.text) := ⟨_, rfl⟩
  obtain ⟨B13, hB13⟩ : ∃ B, B = str (((([112, 105, 99, 107, 40] ++ y0.text) ++ [44, 32]) ++ y1.text) ++ [44, 32]) := ⟨_, rfl⟩
  obtain ⟨B19, hB19⟩ : ∃ B, B = str ((((([112, 105, 99, 107, 40] ++ y0.text) ++ [44, 32]) ++ y1.text) ++ [44, 32]) ++ y2.text) := ⟨_, rfl⟩
  obtain ⟨B20, hB20⟩ : ∃ B, B = str (((((([112, 105, 99, 107, 40] ++ y0.text) ++ [44, 32]) ++ y1.text) ++ [44, 32]) ++ y2.text) ++ [41]) := ⟨_, rfl⟩
  have qB5 : ∀ w : World, (Op.stringOp .add ⟨#[112, 105, 99, 107, 40]⟩ A0).run Tryz.prog w = .ok (.string B5) w := fun w => by
    (try rw [hB5]); (try rw [Nat.add_zero]); (try rw [hA0]); exact add_str ([112, 105, 99, 107, 40]) (y0.text) (by simp; omega) w
  have qB6 : ∀ w : World, (Op.stringOp .add B5 ⟨#[44, 32]⟩).run Tryz.prog w = .ok (.string B6) w := fun w => by
    (try rw [hB6]); (try rw [hB5]); (try rw [Nat.add_zero]); exact add_str (([112, 105, 99, 107, 40] ++ y0.text)) ([44, 32]) (by simp; omega) w
  have qB12 : ∀ w : World, (Op.stringOp .add B6 A1).run Tryz.prog w = .ok (.string B12) w := fun w => by
    (try rw [hB12]); (try rw [hB6]); (try rw [hA1]); exact add_str ((([112, 105, 99, 107, 40] ++ y0.text) ++ [44, 32])) (y1.text) (by simp; omega) w
  have qB13 : ∀ w : World, (Op.stringOp .add B12 ⟨#[44, 32]⟩).run Tryz.prog w = .ok (.string B13) w := fun w => by
    (try rw [hB13]); (try rw [hB12]); (try rw [Nat.add_zero]); exact add_str (((([112, 105, 99, 107, 40] ++ y0.text) ++ [44, 32]) ++ y1.text)) ([44, 32]) (by simp; omega) w
  have qB19 : ∀ w : World, (Op.stringOp .add B13 A2).run Tryz.prog w = .ok (.string B19) w := fun w => by
    (try rw [hB19]); (try rw [hB13]); (try rw [hA2]); exact add_str ((((([112, 105, 99, 107, 40] ++ y0.text) ++ [44, 32]) ++ y1.text) ++ [44, 32])) (y2.text) (by simp; omega) w
  have qB20 : ∀ w : World, (Op.stringOp .add B19 ⟨#[41]⟩).run Tryz.prog w = .ok (.string B20) w := fun w => by
    (try rw [hB20]); (try rw [hB19]); (try rw [Nat.add_zero]); exact add_str (((((([112, 105, 99, 107, 40] ++ y0.text) ++ [44, 32]) ++ y1.text) ++ [44, 32]) ++ y2.text)) ([41]) (by simp; omega) w
  have HF := Lib.hid (show str (Ex.mk 21 wd nm (.cons y0 (.cons y1 (.cons y2 .nil)))).text = B20 by rw [ht, hB20])
  clear hA0 hA1 hA2 hB5 hB6 hB12 hB13 hB19 hB20
  clear hl ht ih hG
  go_enter Tryz.func15, Tryz.ntmps15
  go_wp2_with fail
  clear hW1 x0 x1 x2 x3
  have HS : Below W1.heap.size W1 W1.drew := (Below.refl _ _).drew
  refine wp_region_held_drew (S := fun W => Below W1.heap.size W1 W ∧ W.cell? ⟨w.heap.size, 3, none⟩ = some (.slice (some ⟨b2, o2, none⟩) 3 c) ∧ W.cell? ⟨b2, o2, none⟩ = some (.int .i64 y0.op) ∧ W.cell? ⟨b2, o2 + 1, none⟩ = some (.int .u64 (y0.word : Int)) ∧ W.cell? ⟨b2, o2 + 2, none⟩ = some (.string (str y0.name)) ∧ W.cell? ⟨b2, o2 + 3, none⟩ = some (.slice q0 y0.args.len c0) ∧ W.cell? ⟨b2, o2 + 4, none⟩ = some (.int .i64 y1.op) ∧ W.cell? ⟨b2, o2 + 4 + 1, none⟩ = some (.int .u64 (y1.word : Int)) ∧ W.cell? ⟨b2, o2 + 4 + 2, none⟩ = some (.string (str y1.name)) ∧ W.cell? ⟨b2, o2 + 4 + 3, none⟩ = some (.slice q1 y1.args.len c1) ∧ W.cell? ⟨b2, o2 + 8, none⟩ = some (.int .i64 y2.op) ∧ W.cell? ⟨b2, o2 + 8 + 1, none⟩ = some (.int .u64 (y2.word : Int)) ∧ W.cell? ⟨b2, o2 + 8 + 2, none⟩ = some (.string (str y2.name)) ∧ W.cell? ⟨b2, o2 + 8 + 3, none⟩ = some (.slice q2 y2.args.len c2)) (by kernel_rfl) ?_ (fun hHeld => ?_)
  · exact ⟨HS, HX.out _ HS 3 _ rfl, (HS.cell hb2).trans d00, (HS.cell hb2).trans d01, (HS.cell hb2).trans d02, (HS.cell hb2).trans d03, (HS.cell hb2).trans d10, (HS.cell hb2).trans d11, (HS.cell hb2).trans d12, (HS.cell hb2).trans d13, (HS.cell hb2).trans d20, (HS.cell hb2).trans d21, (HS.cell hb2).trans d22, (HS.cell hb2).trans d23⟩
  refine wpAnyH_take (i := 0) (oi := { dst := Option.some 44, op := Go.Op.fieldAddr 26 (Go.Operand.tmp 1) 3, type := 0, pos := "ref.go:219", after := #[], guard := Option.none }) (v := ?_) rfl (by kernel_rfl) (by kernel_rfl) (by kernel_rfl) (fun _ _ _ h => h) (Or.inl ⟨by rfl, ?_⟩) (by assumption) ?_
  rotate_left
  · (intro w hSw; (try dsimp only at hSw); go_simp; try with_reducible rfl)
  try simp only [Act.put, List.setIfInBounds_toArray, List.set_cons_zero, List.set_cons_succ]
  refine wpAnyH_take (i := 1) (oi := { dst := Option.some 45, op := Go.Op.load 24 (Go.Operand.tmp 44), type := 24, pos := "ref.go:219", after := #[{ on := 0, ground := Go.Ground.data }], guard := Option.none }) (v := ?_) rfl (by kernel_rfl) (by kernel_rfl) (by kernel_rfl) (fun _ _ _ h => h) (Or.inl ⟨by rfl, ?_⟩) (by assumption) ?_
  rotate_left
  · (intro w hSw; (try dsimp only at hSw); go_simp; try with_reducible rfl)
  try simp only [Act.put, List.setIfInBounds_toArray, List.set_cons_zero, List.set_cons_succ]
  refine wpAnyH_take (i := 2) (oi := { dst := Option.some 46, op := Go.Op.indexAddr 24 (Go.Operand.tmp 45) (Go.Operand.const (Go.Value.int Go.IntKind.i64 0)), type := 0, pos := "ref.go:219", after := #[{ on := 1, ground := Go.Ground.data }], guard := Option.none }) (v := ?_) rfl (by kernel_rfl) (by kernel_rfl) (by kernel_rfl) (fun _ _ _ h => h) (Or.inl ⟨by rfl, ?_⟩) (by assumption) ?_
  rotate_left
  · (intro w hSw; (try dsimp only at hSw); go_simp; try with_reducible rfl)
  try simp only [Act.put, List.setIfInBounds_toArray, List.set_cons_zero, List.set_cons_succ]
  refine wpAnyH_take (i := 3) (oi := { dst := Option.some 47, op := Go.Op.load 26 (Go.Operand.tmp 46), type := 26, pos := "ref.go:219", after := #[{ on := 2, ground := Go.Ground.data }], guard := Option.none }) (v := ?_) rfl (by kernel_rfl) (by kernel_rfl) (by kernel_rfl) (fun _ _ _ h => h) (Or.inl ⟨by rfl, ?_⟩) (by assumption) ?_
  rotate_left
  · (intro w hSw; (try dsimp only at hSw); go_simp; try with_reducible rfl)
  try simp only [Act.put, List.setIfInBounds_toArray, List.set_cons_zero, List.set_cons_succ]
  refine wpAnyH_take (i := 7) (oi := { dst := Option.some 51, op := Go.Op.fieldAddr 26 (Go.Operand.tmp 1) 3, type := 0, pos := "ref.go:219", after := #[], guard := Option.none }) (v := ?_) rfl (by kernel_rfl) (by kernel_rfl) (by kernel_rfl) (fun _ _ _ h => h) (Or.inl ⟨by rfl, ?_⟩) (by assumption) ?_
  rotate_left
  · (intro w hSw; (try dsimp only at hSw); go_simp; try with_reducible rfl)
  try simp only [Act.put, List.setIfInBounds_toArray, List.set_cons_zero, List.set_cons_succ]
  refine wpAnyH_take (i := 8) (oi := { dst := Option.some 52, op := Go.Op.load 24 (Go.Operand.tmp 51), type := 24, pos := "ref.go:219", after := #[{ on := 7, ground := Go.Ground.data }], guard := Option.none }) (v := ?_) rfl (by kernel_rfl) (by kernel_rfl) (by kernel_rfl) (fun _ _ _ h => h) (Or.inl ⟨by rfl, ?_⟩) (by assumption) ?_
  rotate_left
  · (intro w hSw; (try dsimp only at hSw); go_simp; try with_reducible rfl)
  try simp only [Act.put, List.setIfInBounds_toArray, List.set_cons_zero, List.set_cons_succ]
  refine wpAnyH_take (i := 9) (oi := { dst := Option.some 53, op := Go.Op.indexAddr 24 (Go.Operand.tmp 52) (Go.Operand.const (Go.Value.int Go.IntKind.i64 1)), type := 0, pos := "ref.go:219", after := #[{ on := 8, ground := Go.Ground.data }], guard := Option.none }) (v := ?_) rfl (by kernel_rfl) (by kernel_rfl) (by kernel_rfl) (fun _ _ _ h => h) (Or.inl ⟨by rfl, ?_⟩) (by assumption) ?_
  rotate_left
  · (intro w hSw; (try dsimp only at hSw); go_simp; try with_reducible rfl)
  try simp only [Act.put, List.setIfInBounds_toArray, List.set_cons_zero, List.set_cons_succ]
  refine wpAnyH_take (i := 10) (oi := { dst := Option.some 54, op := Go.Op.load 26 (Go.Operand.tmp 53), type := 26, pos := "ref.go:219", after := #[{ on := 9, ground := Go.Ground.data }], guard := Option.none }) (v := ?_) rfl (by kernel_rfl) (by kernel_rfl) (by kernel_rfl) (fun _ _ _ h => h) (Or.inl ⟨by rfl, ?_⟩) (by assumption) ?_
  rotate_left
  · (intro w hSw; (try dsimp only at hSw); go_simp; try with_reducible rfl)
  try simp only [Act.put, List.setIfInBounds_toArray, List.set_cons_zero, List.set_cons_succ]
  refine wpAnyH_take (i := 14) (oi := { dst := Option.some 58, op := Go.Op.fieldAddr 26 (Go.Operand.tmp 1) 3, type := 0, pos := "ref.go:219", after := #[], guard := Option.none }) (v := ?_) rfl (by kernel_rfl) (by kernel_rfl) (by kernel_rfl) (fun _ _ _ h => h) (Or.inl ⟨by rfl, ?_⟩) (by assumption) ?_
  rotate_left
  · (intro w hSw; (try dsimp only at hSw); go_simp; try with_reducible rfl)
  try simp only [Act.put, List.setIfInBounds_toArray, List.set_cons_zero, List.set_cons_succ]
  refine wpAnyH_take (i := 15) (oi := { dst := Option.some 59, op := Go.Op.load 24 (Go.Operand.tmp 58), type := 24, pos := "ref.go:219", after := #[{ on := 14, ground := Go.Ground.data }], guard := Option.none }) (v := ?_) rfl (by kernel_rfl) (by kernel_rfl) (by kernel_rfl) (fun _ _ _ h => h) (Or.inl ⟨by rfl, ?_⟩) (by assumption) ?_
  rotate_left
  · (intro w hSw; (try dsimp only at hSw); go_simp; try with_reducible rfl)
  try simp only [Act.put, List.setIfInBounds_toArray, List.set_cons_zero, List.set_cons_succ]
  refine wpAnyH_take (i := 16) (oi := { dst := Option.some 60, op := Go.Op.indexAddr 24 (Go.Operand.tmp 59) (Go.Operand.const (Go.Value.int Go.IntKind.i64 2)), type := 0, pos := "ref.go:219", after := #[{ on := 15, ground := Go.Ground.data }], guard := Option.none }) (v := ?_) rfl (by kernel_rfl) (by kernel_rfl) (by kernel_rfl) (fun _ _ _ h => h) (Or.inl ⟨by rfl, ?_⟩) (by assumption) ?_
  rotate_left
  · (intro w hSw; (try dsimp only at hSw); go_simp; try with_reducible rfl)
  try simp only [Act.put, List.setIfInBounds_toArray, List.set_cons_zero, List.set_cons_succ]
  refine wpAnyH_take (i := 17) (oi := { dst := Option.some 61, op := Go.Op.load 26 (Go.Operand.tmp 60), type := 26, pos := "ref.go:219", after := #[{ on := 16, ground := Go.Ground.data }], guard := Option.none }) (v := ?_) rfl (by kernel_rfl) (by kernel_rfl) (by kernel_rfl) (fun _ _ _ h => h) (Or.inl ⟨by rfl, ?_⟩) (by assumption) ?_
  rotate_left
  · (intro w hSw; (try dsimp only at hSw); go_simp; try with_reducible rfl)
  try simp only [Act.put, List.setIfInBounds_toArray, List.set_cons_zero, List.set_cons_succ]
  refine wpAnyH_ready (rs := [4]) (by kernel_rfl) (by simp) ?_
  refine AllReadyH.cons (o := { dst := Option.some 48, op := Go.Op.call { callee := Go.Callee.value (Go.Operand.func 15), args := #[Go.Operand.tmp 47], argTypes := #[26] }, type := 9, pos := "ref.go:219", after := #[{ on := 3, ground := Go.Ground.data }], guard := Option.none }) rfl (fun K hK => ?_) AllReadyH.nil
  go_simp
  refine (HC0.out _ HS).mono ?_
  rintro z wa ⟨rfl, hB'⟩
  replace HS := HS.trans (hB'.mono HS.size)
  clear hB'
  refine hK.out _ _ ?_ (fun hHeld => ?_)
  · exact ⟨HS, HX.out _ HS 3 _ rfl, (HS.cell hb2).trans d00, (HS.cell hb2).trans d01, (HS.cell hb2).trans d02, (HS.cell hb2).trans d03, (HS.cell hb2).trans d10, (HS.cell hb2).trans d11, (HS.cell hb2).trans d12, (HS.cell hb2).trans d13, (HS.cell hb2).trans d20, (HS.cell hb2).trans d21, (HS.cell hb2).trans d22, (HS.cell hb2).trans d23⟩
  clear hK K
  try simp only [Act.put, List.setIfInBounds_toArray, List.set_cons_zero, List.set_cons_succ]
  refine wpAnyH_take (i := 5) (oi := { dst := Option.some 49, op := Go.Op.binOp Go.BinOp.add 9 (Go.Operand.const (Go.Value.string { data := #[112, 105, 99, 107, 40] })) (Go.Operand.tmp 48) 9, type := 9, pos := "ref.go:219", after := #[{ on := 4, ground := Go.Ground.data }], guard := Option.none }) (v := .string B5) rfl (by kernel_rfl) (by kernel_rfl) (by kernel_rfl) (fun _ _ _ h => h) (Or.inl ⟨by rfl, ?_⟩) (by assumption) ?_
  · (intro w hSw; (try dsimp only at hSw); go_simp)
  try simp only [Act.put, List.setIfInBounds_toArray, List.set_cons_zero, List.set_cons_succ]
  refine wpAnyH_take (i := 6) (oi := { dst := Option.some 50, op := Go.Op.binOp Go.BinOp.add 9 (Go.Operand.tmp 49) (Go.Operand.const (Go.Value.string { data := #[44, 32] })) 9, type := 9, pos := "ref.go:219", after := #[{ on := 5, ground := Go.Ground.data }], guard := Option.none }) (v := .string B6) rfl (by kernel_rfl) (by kernel_rfl) (by kernel_rfl) (fun _ _ _ h => h) (Or.inl ⟨by rfl, ?_⟩) (by assumption) ?_
  · (intro w hSw; (try dsimp only at hSw); go_simp)
  try simp only [Act.put, List.setIfInBounds_toArray, List.set_cons_zero, List.set_cons_succ]
  refine wpAnyH_ready (rs := [11]) (by kernel_rfl) (by simp) ?_
  refine AllReadyH.cons (o := { dst := Option.some 55, op := Go.Op.call { callee := Go.Callee.value (Go.Operand.func 15), args := #[Go.Operand.tmp 54], argTypes := #[26] }, type := 9, pos := "ref.go:219", after := #[{ on := 10, ground := Go.Ground.data }, { on := 4, ground := Go.Ground.chain }], guard := Option.none }) rfl (fun K hK => ?_) AllReadyH.nil
  go_simp
  refine (HC1.out _ HS).mono ?_
  rintro z wa ⟨rfl, hB'⟩
  replace HS := HS.trans (hB'.mono HS.size)
  clear hB'
  refine hK.out _ _ ?_ (fun hHeld => ?_)
  · exact ⟨HS, HX.out _ HS 3 _ rfl, (HS.cell hb2).trans d00, (HS.cell hb2).trans d01, (HS.cell hb2).trans d02, (HS.cell hb2).trans d03, (HS.cell hb2).trans d10, (HS.cell hb2).trans d11, (HS.cell hb2).trans d12, (HS.cell hb2).trans d13, (HS.cell hb2).trans d20, (HS.cell hb2).trans d21, (HS.cell hb2).trans d22, (HS.cell hb2).trans d23⟩
  clear hK K
  try simp only [Act.put, List.setIfInBounds_toArray, List.set_cons_zero, List.set_cons_succ]
  refine wpAnyH_take (i := 12) (oi := { dst := Option.some 56, op := Go.Op.binOp Go.BinOp.add 9 (Go.Operand.tmp 50) (Go.Operand.tmp 55) 9, type := 9, pos := "ref.go:219", after := #[{ on := 6, ground := Go.Ground.data }, { on := 11, ground := Go.Ground.data }], guard := Option.none }) (v := .string B12) rfl (by kernel_rfl) (by kernel_rfl) (by kernel_rfl) (fun _ _ _ h => h) (Or.inl ⟨by rfl, ?_⟩) (by assumption) ?_
  · (intro w hSw; (try dsimp only at hSw); go_simp)
  try simp only [Act.put, List.setIfInBounds_toArray, List.set_cons_zero, List.set_cons_succ]
  refine wpAnyH_take (i := 13) (oi := { dst := Option.some 57, op := Go.Op.binOp Go.BinOp.add 9 (Go.Operand.tmp 56) (Go.Operand.const (Go.Value.string { data := #[44, 32] })) 9, type := 9, pos := "ref.go:219", after := #[{ on := 12, ground := Go.Ground.data }], guard := Option.none }) (v := .string B13) rfl (by kernel_rfl) (by kernel_rfl) (by kernel_rfl) (fun _ _ _ h => h) (Or.inl ⟨by rfl, ?_⟩) (by assumption) ?_
  · (intro w hSw; (try dsimp only at hSw); go_simp)
  try simp only [Act.put, List.setIfInBounds_toArray, List.set_cons_zero, List.set_cons_succ]
  refine wpAnyH_ready (rs := [18]) (by kernel_rfl) (by simp) ?_
  refine AllReadyH.cons (o := { dst := Option.some 62, op := Go.Op.call { callee := Go.Callee.value (Go.Operand.func 15), args := #[Go.Operand.tmp 61], argTypes := #[26] }, type := 9, pos := "ref.go:219", after := #[{ on := 17, ground := Go.Ground.data }, { on := 11, ground := Go.Ground.chain }], guard := Option.none }) rfl (fun K hK => ?_) AllReadyH.nil
  go_simp
  refine (HC2.out _ HS).mono ?_
  rintro z wa ⟨rfl, hB'⟩
  replace HS := HS.trans (hB'.mono HS.size)
  clear hB'
  refine hK.out _ _ ?_ (fun hHeld => ?_)
  · exact ⟨HS, HX.out _ HS 3 _ rfl, (HS.cell hb2).trans d00, (HS.cell hb2).trans d01, (HS.cell hb2).trans d02, (HS.cell hb2).trans d03, (HS.cell hb2).trans d10, (HS.cell hb2).trans d11, (HS.cell hb2).trans d12, (HS.cell hb2).trans d13, (HS.cell hb2).trans d20, (HS.cell hb2).trans d21, (HS.cell hb2).trans d22, (HS.cell hb2).trans d23⟩
  clear hK K
  try simp only [Act.put, List.setIfInBounds_toArray, List.set_cons_zero, List.set_cons_succ]
  refine wpAnyH_take (i := 19) (oi := { dst := Option.some 63, op := Go.Op.binOp Go.BinOp.add 9 (Go.Operand.tmp 57) (Go.Operand.tmp 62) 9, type := 9, pos := "ref.go:219", after := #[{ on := 13, ground := Go.Ground.data }, { on := 18, ground := Go.Ground.data }], guard := Option.none }) (v := .string B19) rfl (by kernel_rfl) (by kernel_rfl) (by kernel_rfl) (fun _ _ _ h => h) (Or.inl ⟨by rfl, ?_⟩) (by assumption) ?_
  · (intro w hSw; (try dsimp only at hSw); go_simp)
  try simp only [Act.put, List.setIfInBounds_toArray, List.set_cons_zero, List.set_cons_succ]
  refine wpAnyH_take (i := 20) (oi := { dst := Option.some 64, op := Go.Op.binOp Go.BinOp.add 9 (Go.Operand.tmp 63) (Go.Operand.const (Go.Value.string { data := #[41] })) 9, type := 9, pos := "ref.go:219", after := #[{ on := 19, ground := Go.Ground.data }], guard := Option.none }) (v := .string B20) rfl (by kernel_rfl) (by kernel_rfl) (by kernel_rfl) (fun _ _ _ h => h) (Or.inl ⟨by rfl, ?_⟩) (by assumption) ?_
  · (intro w hSw; (try dsimp only at hSw); go_simp)
  try simp only [Act.put, List.setIfInBounds_toArray, List.set_cons_zero, List.set_cons_succ]
  refine wpAnyH_take (i := 21) (oi := { dst := Option.some 2, op := Go.Op.assign (Go.Operand.tmp 64), type := 9, pos := "ref.go:219", after := #[{ on := 20, ground := Go.Ground.data }, { on := 18, ground := Go.Ground.chain }, { on := 0, ground := Go.Ground.phase }, { on := 1, ground := Go.Ground.phase }, { on := 2, ground := Go.Ground.phase }, { on := 3, ground := Go.Ground.phase }, { on := 4, ground := Go.Ground.phase }, { on := 5, ground := Go.Ground.phase }, { on := 6, ground := Go.Ground.phase }, { on := 7, ground := Go.Ground.phase }, { on := 8, ground := Go.Ground.phase }, { on := 9, ground := Go.Ground.phase }, { on := 10, ground := Go.Ground.phase }, { on := 11, ground := Go.Ground.phase }, { on := 12, ground := Go.Ground.phase }, { on := 13, ground := Go.Ground.phase }, { on := 14, ground := Go.Ground.phase }, { on := 15, ground := Go.Ground.phase }, { on := 16, ground := Go.Ground.phase }, { on := 17, ground := Go.Ground.phase }, { on := 18, ground := Go.Ground.phase }, { on := 19, ground := Go.Ground.phase }, { on := 20, ground := Go.Ground.phase }], guard := Option.none }) (v := ?_) rfl (by kernel_rfl) (by kernel_rfl) (by kernel_rfl) (fun _ _ _ h => h) (Or.inl ⟨by rfl, ?_⟩) (by assumption) ?_
  rotate_left
  · (intro w hSw; (try dsimp only at hSw); go_simp; try with_reducible rfl)
  try simp only [Act.put, List.setIfInBounds_toArray, List.set_cons_zero, List.set_cons_succ]
  refine wpAnyH_done (by kernel_rfl) ?_ _
  have HE := Lib.hid (HB1.out.trans (HS.mono HB1.out.size))
  go_wp2_with fail
  go_ret
  exact ⟨ret_strE HF.out.symm, HE.out⟩

set_option maxRecDepth 100000 in
set_option maxHeartbeats 6400000 in
theorem re_two (n : Nat) (ih : RE n) (op : Int) (hop : 6 ≤ op ∧ op ≤ 20) (wd : Nat) (nm : List UInt8) (b2 o2 c N : Nat) (w : World) (hG : Glob w) (hN : N ≤ w.heap.size) (hbN : b2 < N) (y0 : Ex) (hs0 : y0.size < n) (hm0 : y0.may = true) (hy0 : y0.At w N b2 (o2)) (y1 : Ex) (hs1 : y1.size < n) (hm1 : y1.may = true) (hy1 : y1.At w N b2 (o2 + 4)) (hl : (Ex.mk op wd nm (.cons y0 (.cons y1 .nil))).text.length ≤ 1000000) :
    Calls Tryz.prog 15 #[.agg #[.int .i64 op, .int .u64 (wd : Int), .string (str nm), .slice (some ⟨b2, o2, none⟩) 2 c]] w fun e w' => e = .returned (.string (str (Ex.mk op wd nm (.cons y0 (.cons y1 .nil))).text)) ∧ Below w.heap.size w w' := by
  have ht : (Ex.mk op wd nm (.cons y0 (.cons y1 .nil))).text = ((((([40] ++ y0.text) ++ [32]) ++ signOf op) ++ [32]) ++ y1.text) ++ [41] := by
    rw [Ex.text, textOf, if_neg (by omega), if_neg (by omega), if_neg (by omega), if_neg (by omega), if_neg (by omega), if_neg (by omega)]; rfl
  have hlen : y0.text.length + (signOf op).length + y1.text.length ≤ 1000000 := by rw [ht] at hl; simp at hl; omega
  obtain ⟨W1, hW1⟩ : ∃ W1, w.alloc (.cells #[.int .i64 op, .int .u64 (wd : Int), .string (str nm), .slice (some ⟨b2, o2, none⟩) 2 c] 26) = W1 := ⟨_, rfl⟩
  have HB1 := Lib.hid (show Below w.heap.size w W1 by rw [← hW1]; exact (Below.refl _ _).alloc (Nat.le_refl _) _)
  have HX := Lib.hid (fun w1 hb => cells_later (w0 := W1) (w1 := w1) (b := w.heap.size) (A := #[.int .i64 op, .int .u64 (wd : Int), .string (str nm), .slice (some ⟨b2, o2, none⟩) 2 c]) (t := 26) (by rw [← hW1]; exact heap_alloc_new w _) hb)
  have x0 : W1.cell? ⟨w.heap.size, 0, none⟩ = some (.int .i64 op) := HX.out _ (Below.refl _ _) 0 _ rfl
  have x1 : W1.cell? ⟨w.heap.size, 1, none⟩ = some (.int .u64 (wd : Int)) := HX.out _ (Below.refl _ _) 1 _ rfl
  have x2 : W1.cell? ⟨w.heap.size, 2, none⟩ = some (.string (str nm)) := HX.out _ (Below.refl _ _) 2 _ rfl
  have x3 : W1.cell? ⟨w.heap.size, 3, none⟩ = some (.slice (some ⟨b2, o2, none⟩) 2 c) := HX.out _ (Below.refl _ _) 3 _ rfl
  have hbw : b2 < w.heap.size := by omega
  have hb2 : b2 < W1.heap.size := by have := HB1.out.size; omega
  obtain ⟨q0, c0, e00, e01, e02, e03, ok0⟩ := hy0.open'
  have d00 : W1.cell? ⟨b2, o2, none⟩ = some (.int .i64 y0.op) := (HB1.out.cell hbw).trans e00
  have d01 : W1.cell? ⟨b2, o2 + 1, none⟩ = some (.int .u64 (y0.word : Int)) := (HB1.out.cell hbw).trans e01
  have d02 : W1.cell? ⟨b2, o2 + 2, none⟩ = some (.string (str y0.name)) := (HB1.out.cell hbw).trans e02
  have d03 : W1.cell? ⟨b2, o2 + 3, none⟩ = some (.slice q0 y0.args.len c0) := (HB1.out.cell hbw).trans e03
  have HC0 := Lib.hid (fun (w1 : World) (hb : Below W1.heap.size W1 w1) => ih y0 hs0 hm0 (by omega) q0 c0 w1.heap.size w1 (ok0.later ((HB1.out.trans (hb.mono HB1.out.size)).mono hN) (Nat.le_trans hN (HB1.out.trans (hb.mono HB1.out.size)).size)) (Nat.le_refl _) (hG.later (HB1.out.trans (hb.mono HB1.out.size))))
  unfold Ex.val at HC0
  obtain ⟨q1, c1, e10, e11, e12, e13, ok1⟩ := hy1.open'
  have d10 : W1.cell? ⟨b2, o2 + 4, none⟩ = some (.int .i64 y1.op) := (HB1.out.cell hbw).trans e10
  have d11 : W1.cell? ⟨b2, o2 + 4 + 1, none⟩ = some (.int .u64 (y1.word : Int)) := (HB1.out.cell hbw).trans e11
  have d12 : W1.cell? ⟨b2, o2 + 4 + 2, none⟩ = some (.string (str y1.name)) := (HB1.out.cell hbw).trans e12
  have d13 : W1.cell? ⟨b2, o2 + 4 + 3, none⟩ = some (.slice q1 y1.args.len c1) := (HB1.out.cell hbw).trans e13
  have HC1 := Lib.hid (fun (w1 : World) (hb : Below W1.heap.size W1 w1) => ih y1 hs1 hm1 (by omega) q1 c1 w1.heap.size w1 (ok1.later ((HB1.out.trans (hb.mono HB1.out.size)).mono hN) (Nat.le_trans hN (HB1.out.trans (hb.mono HB1.out.size)).size)) (Nat.le_refl _) (hG.later (HB1.out.trans (hb.mono HB1.out.size))))
  unfold Ex.val at HC1
  clear e00 e01 e02 e03 e10 e11 e12 e13 ok0 hy0 hs0 hm0 ok1 hy1 hs1 hm1
  have HSg := Lib.hid (fun w => refSign_any op w (by omega) (by omega))
  obtain ⟨AS, hAS⟩ : ∃ A, A = str (signOf op) := ⟨_, rfl⟩
  rw [← hAS] at HSg
  obtain ⟨A0, hA0⟩ : ∃ A, A = str y0.text := ⟨_, rfl⟩
  rw [← hA0] at HC0
  obtain ⟨A1, hA1⟩ : ∃ A, A = str y1.text := ⟨_, rfl⟩
  rw [← hA1] at HC1
  obtain ⟨B5, hB5⟩ : ∃ B, B = str ([40] ++ y0.text) := ⟨_, rfl⟩
  obtain ⟨B6, hB6⟩ : ∃ B, B = str (([40] ++ y0.text) ++ [32]) := ⟨_, rfl⟩
  obtain ⟨B10, hB10⟩ : ∃ B, B = str ((([40] ++ y0.text) ++ [32]) ++ signOf op) := ⟨_, rfl⟩
  obtain ⟨B11, hB11⟩ : ∃ B, B = str (((([40] ++ y0.text) ++ [32]) ++ signOf op) ++ [32]) := ⟨_, rfl⟩
  obtain ⟨B17, hB17⟩ : ∃ B, B = str ((((([40] ++ y0.text) ++ [32]) ++ signOf op) ++ [32]) ++ y1.text) := ⟨_, rfl⟩
  obtain ⟨B18, hB18⟩ : ∃ B, B = str (((((([40] ++ y0.text) ++ [32]) ++ signOf op) ++ [32]) ++ y1.text) ++ [41]) := ⟨_, rfl⟩
  have qB5 : ∀ w : World, (Op.stringOp .add ⟨#[40]⟩ A0).run Tryz.prog w = .ok (.string B5) w := fun w => by
    (try rw [hB5]); (try rw [Nat.add_zero]); (try rw [hA0]); exact add_str ([40]) (y0.text) (by simp; omega) w
  have qB6 : ∀ w : World, (Op.stringOp .add B5 ⟨#[32]⟩).run Tryz.prog w = .ok (.string B6) w := fun w => by
    (try rw [hB6]); (try rw [hB5]); (try rw [Nat.add_zero]); exact add_str (([40] ++ y0.text)) ([32]) (by simp; omega) w
  have qB10 : ∀ w : World, (Op.stringOp .add B6 AS).run Tryz.prog w = .ok (.string B10) w := fun w => by
    (try rw [hB10]); (try rw [hB6]); (try rw [hAS]); exact add_str ((([40] ++ y0.text) ++ [32])) (signOf op) (by simp; omega) w
  have qB11 : ∀ w : World, (Op.stringOp .add B10 ⟨#[32]⟩).run Tryz.prog w = .ok (.string B11) w := fun w => by
    (try rw [hB11]); (try rw [hB10]); (try rw [Nat.add_zero]); exact add_str (((([40] ++ y0.text) ++ [32]) ++ signOf op)) ([32]) (by simp; omega) w
  have qB17 : ∀ w : World, (Op.stringOp .add B11 A1).run Tryz.prog w = .ok (.string B17) w := fun w => by
    (try rw [hB17]); (try rw [hB11]); (try rw [hA1]); exact add_str ((((([40] ++ y0.text) ++ [32]) ++ signOf op) ++ [32])) (y1.text) (by simp; omega) w
  have qB18 : ∀ w : World, (Op.stringOp .add B17 ⟨#[41]⟩).run Tryz.prog w = .ok (.string B18) w := fun w => by
    (try rw [hB18]); (try rw [hB17]); (try rw [Nat.add_zero]); exact add_str (((((([40] ++ y0.text) ++ [32]) ++ signOf op) ++ [32]) ++ y1.text)) ([41]) (by simp; omega) w
  have HF := Lib.hid (show str (Ex.mk op wd nm (.cons y0 (.cons y1 .nil))).text = B18 by rw [ht, hB18])
  clear hA0 hA1 hB5 hB6 hB10 hB11 hB17 hB18
  have t1 : (op == 1) = false := by simp; omega
  have t2 : (op == 2) = false := by simp; omega
  have t3 : (op == 3) = false := by simp; omega
  have t4 : (op == 4) = false := by simp; omega
  have t5 : (op == 5) = false := by simp; omega
  have t21 : (op == 21) = false := by simp; omega
  clear hl ht ih hG hop hAS
  go_enter Tryz.func15, Tryz.ntmps15
  go_wp2_with fail
  clear hW1 x0 x1 x2 x3
  have HS : Below W1.heap.size W1 W1.drew := (Below.refl _ _).drew
  refine wp_region_held_drew (S := fun W => Below W1.heap.size W1 W ∧ W.cell? ⟨w.heap.size, 0, none⟩ = some (.int .i64 op) ∧ W.cell? ⟨w.heap.size, 3, none⟩ = some (.slice (some ⟨b2, o2, none⟩) 2 c) ∧ W.cell? ⟨b2, o2, none⟩ = some (.int .i64 y0.op) ∧ W.cell? ⟨b2, o2 + 1, none⟩ = some (.int .u64 (y0.word : Int)) ∧ W.cell? ⟨b2, o2 + 2, none⟩ = some (.string (str y0.name)) ∧ W.cell? ⟨b2, o2 + 3, none⟩ = some (.slice q0 y0.args.len c0) ∧ W.cell? ⟨b2, o2 + 4, none⟩ = some (.int .i64 y1.op) ∧ W.cell? ⟨b2, o2 + 4 + 1, none⟩ = some (.int .u64 (y1.word : Int)) ∧ W.cell? ⟨b2, o2 + 4 + 2, none⟩ = some (.string (str y1.name)) ∧ W.cell? ⟨b2, o2 + 4 + 3, none⟩ = some (.slice q1 y1.args.len c1)) (by kernel_rfl) ?_ (fun hHeld => ?_)
  · exact ⟨HS, HX.out _ HS 0 _ rfl, HX.out _ HS 3 _ rfl, (HS.cell hb2).trans d00, (HS.cell hb2).trans d01, (HS.cell hb2).trans d02, (HS.cell hb2).trans d03, (HS.cell hb2).trans d10, (HS.cell hb2).trans d11, (HS.cell hb2).trans d12, (HS.cell hb2).trans d13⟩
  refine wpAnyH_take (i := 0) (oi := { dst := Option.some 65, op := Go.Op.fieldAddr 26 (Go.Operand.tmp 1) 3, type := 0, pos := "ref.go:221", after := #[], guard := Option.none }) (v := ?_) rfl (by kernel_rfl) (by kernel_rfl) (by kernel_rfl) (fun _ _ _ h => h) (Or.inl ⟨by rfl, ?_⟩) (by assumption) ?_
  rotate_left
  · (intro w hSw; (try dsimp only at hSw); go_simp; try with_reducible rfl)
  try simp only [Act.put, List.setIfInBounds_toArray, List.set_cons_zero, List.set_cons_succ]
  refine wpAnyH_take (i := 1) (oi := { dst := Option.some 66, op := Go.Op.load 24 (Go.Operand.tmp 65), type := 24, pos := "ref.go:221", after := #[{ on := 0, ground := Go.Ground.data }], guard := Option.none }) (v := ?_) rfl (by kernel_rfl) (by kernel_rfl) (by kernel_rfl) (fun _ _ _ h => h) (Or.inl ⟨by rfl, ?_⟩) (by assumption) ?_
  rotate_left
  · (intro w hSw; (try dsimp only at hSw); go_simp; try with_reducible rfl)
  try simp only [Act.put, List.setIfInBounds_toArray, List.set_cons_zero, List.set_cons_succ]
  refine wpAnyH_take (i := 2) (oi := { dst := Option.some 67, op := Go.Op.indexAddr 24 (Go.Operand.tmp 66) (Go.Operand.const (Go.Value.int Go.IntKind.i64 0)), type := 0, pos := "ref.go:221", after := #[{ on := 1, ground := Go.Ground.data }], guard := Option.none }) (v := ?_) rfl (by kernel_rfl) (by kernel_rfl) (by kernel_rfl) (fun _ _ _ h => h) (Or.inl ⟨by rfl, ?_⟩) (by assumption) ?_
  rotate_left
  · (intro w hSw; (try dsimp only at hSw); go_simp; try with_reducible rfl)
  try simp only [Act.put, List.setIfInBounds_toArray, List.set_cons_zero, List.set_cons_succ]
  refine wpAnyH_take (i := 3) (oi := { dst := Option.some 68, op := Go.Op.load 26 (Go.Operand.tmp 67), type := 26, pos := "ref.go:221", after := #[{ on := 2, ground := Go.Ground.data }], guard := Option.none }) (v := ?_) rfl (by kernel_rfl) (by kernel_rfl) (by kernel_rfl) (fun _ _ _ h => h) (Or.inl ⟨by rfl, ?_⟩) (by assumption) ?_
  rotate_left
  · (intro w hSw; (try dsimp only at hSw); go_simp; try with_reducible rfl)
  try simp only [Act.put, List.setIfInBounds_toArray, List.set_cons_zero, List.set_cons_succ]
  refine wpAnyH_take (i := 7) (oi := { dst := Option.some 72, op := Go.Op.fieldAddr 26 (Go.Operand.tmp 1) 0, type := 0, pos := "ref.go:221", after := #[], guard := Option.none }) (v := ?_) rfl (by kernel_rfl) (by kernel_rfl) (by kernel_rfl) (fun _ _ _ h => h) (Or.inl ⟨by rfl, ?_⟩) (by assumption) ?_
  rotate_left
  · (intro w hSw; (try dsimp only at hSw); go_simp; try with_reducible rfl)
  try simp only [Act.put, List.setIfInBounds_toArray, List.set_cons_zero, List.set_cons_succ]
  refine wpAnyH_take (i := 8) (oi := { dst := Option.some 73, op := Go.Op.load 22 (Go.Operand.tmp 72), type := 22, pos := "ref.go:221", after := #[{ on := 7, ground := Go.Ground.data }], guard := Option.none }) (v := ?_) rfl (by kernel_rfl) (by kernel_rfl) (by kernel_rfl) (fun _ _ _ h => h) (Or.inl ⟨by rfl, ?_⟩) (by assumption) ?_
  rotate_left
  · (intro w hSw; (try dsimp only at hSw); go_simp; try with_reducible rfl)
  try simp only [Act.put, List.setIfInBounds_toArray, List.set_cons_zero, List.set_cons_succ]
  refine wpAnyH_take (i := 12) (oi := { dst := Option.some 77, op := Go.Op.fieldAddr 26 (Go.Operand.tmp 1) 3, type := 0, pos := "ref.go:221", after := #[], guard := Option.none }) (v := ?_) rfl (by kernel_rfl) (by kernel_rfl) (by kernel_rfl) (fun _ _ _ h => h) (Or.inl ⟨by rfl, ?_⟩) (by assumption) ?_
  rotate_left
  · (intro w hSw; (try dsimp only at hSw); go_simp; try with_reducible rfl)
  try simp only [Act.put, List.setIfInBounds_toArray, List.set_cons_zero, List.set_cons_succ]
  refine wpAnyH_take (i := 13) (oi := { dst := Option.some 78, op := Go.Op.load 24 (Go.Operand.tmp 77), type := 24, pos := "ref.go:221", after := #[{ on := 12, ground := Go.Ground.data }], guard := Option.none }) (v := ?_) rfl (by kernel_rfl) (by kernel_rfl) (by kernel_rfl) (fun _ _ _ h => h) (Or.inl ⟨by rfl, ?_⟩) (by assumption) ?_
  rotate_left
  · (intro w hSw; (try dsimp only at hSw); go_simp; try with_reducible rfl)
  try simp only [Act.put, List.setIfInBounds_toArray, List.set_cons_zero, List.set_cons_succ]
  refine wpAnyH_take (i := 14) (oi := { dst := Option.some 79, op := Go.Op.indexAddr 24 (Go.Operand.tmp 78) (Go.Operand.const (Go.Value.int Go.IntKind.i64 1)), type := 0, pos := "ref.go:221", after := #[{ on := 13, ground := Go.Ground.data }], guard := Option.none }) (v := ?_) rfl (by kernel_rfl) (by kernel_rfl) (by kernel_rfl) (fun _ _ _ h => h) (Or.inl ⟨by rfl, ?_⟩) (by assumption) ?_
  rotate_left
  · (intro w hSw; (try dsimp only at hSw); go_simp; try with_reducible rfl)
  try simp only [Act.put, List.setIfInBounds_toArray, List.set_cons_zero, List.set_cons_succ]
  refine wpAnyH_take (i := 15) (oi := { dst := Option.some 80, op := Go.Op.load 26 (Go.Operand.tmp 79), type := 26, pos := "ref.go:221", after := #[{ on := 14, ground := Go.Ground.data }], guard := Option.none }) (v := ?_) rfl (by kernel_rfl) (by kernel_rfl) (by kernel_rfl) (fun _ _ _ h => h) (Or.inl ⟨by rfl, ?_⟩) (by assumption) ?_
  rotate_left
  · (intro w hSw; (try dsimp only at hSw); go_simp; try with_reducible rfl)
  try simp only [Act.put, List.setIfInBounds_toArray, List.set_cons_zero, List.set_cons_succ]
  refine wpAnyH_ready (rs := [4]) (by kernel_rfl) (by simp) ?_
  refine AllReadyH.cons (o := { dst := Option.some 69, op := Go.Op.call { callee := Go.Callee.value (Go.Operand.func 15), args := #[Go.Operand.tmp 68], argTypes := #[26] }, type := 9, pos := "ref.go:221", after := #[{ on := 3, ground := Go.Ground.data }], guard := Option.none }) rfl (fun K hK => ?_) AllReadyH.nil
  go_simp
  refine (HC0.out _ HS).mono ?_
  rintro z wa ⟨rfl, hB'⟩
  replace HS := HS.trans (hB'.mono HS.size)
  clear hB'
  refine hK.out _ _ ?_ (fun hHeld => ?_)
  · exact ⟨HS, HX.out _ HS 0 _ rfl, HX.out _ HS 3 _ rfl, (HS.cell hb2).trans d00, (HS.cell hb2).trans d01, (HS.cell hb2).trans d02, (HS.cell hb2).trans d03, (HS.cell hb2).trans d10, (HS.cell hb2).trans d11, (HS.cell hb2).trans d12, (HS.cell hb2).trans d13⟩
  clear hK K
  try simp only [Act.put, List.setIfInBounds_toArray, List.set_cons_zero, List.set_cons_succ]
  refine wpAnyH_take (i := 5) (oi := { dst := Option.some 70, op := Go.Op.binOp Go.BinOp.add 9 (Go.Operand.const (Go.Value.string { data := #[40] })) (Go.Operand.tmp 69) 9, type := 9, pos := "ref.go:221", after := #[{ on := 4, ground := Go.Ground.data }], guard := Option.none }) (v := .string B5) rfl (by kernel_rfl) (by kernel_rfl) (by kernel_rfl) (fun _ _ _ h => h) (Or.inl ⟨by rfl, ?_⟩) (by assumption) ?_
  · (intro w hSw; (try dsimp only at hSw); go_simp)
  try simp only [Act.put, List.setIfInBounds_toArray, List.set_cons_zero, List.set_cons_succ]
  refine wpAnyH_take (i := 6) (oi := { dst := Option.some 71, op := Go.Op.binOp Go.BinOp.add 9 (Go.Operand.tmp 70) (Go.Operand.const (Go.Value.string { data := #[32] })) 9, type := 9, pos := "ref.go:221", after := #[{ on := 5, ground := Go.Ground.data }], guard := Option.none }) (v := .string B6) rfl (by kernel_rfl) (by kernel_rfl) (by kernel_rfl) (fun _ _ _ h => h) (Or.inl ⟨by rfl, ?_⟩) (by assumption) ?_
  · (intro w hSw; (try dsimp only at hSw); go_simp)
  try simp only [Act.put, List.setIfInBounds_toArray, List.set_cons_zero, List.set_cons_succ]
  refine wpAnyH_ready (rs := [9]) (by kernel_rfl) (by simp) ?_
  refine AllReadyH.cons (o := { dst := Option.some 74, op := Go.Op.call { callee := Go.Callee.value (Go.Operand.func 41), args := #[Go.Operand.tmp 73], argTypes := #[22] }, type := 9, pos := "ref.go:221", after := #[{ on := 8, ground := Go.Ground.data }, { on := 4, ground := Go.Ground.chain }], guard := Option.none }) rfl (fun K hK => ?_) AllReadyH.nil
  go_simp
  refine (HSg.out _).mono ?_
  rintro z wa ⟨rfl, hB'⟩
  replace HS := HS.trans (hB'.mono HS.size)
  clear hB'
  refine hK.out _ _ ?_ (fun hHeld => ?_)
  · exact ⟨HS, HX.out _ HS 0 _ rfl, HX.out _ HS 3 _ rfl, (HS.cell hb2).trans d00, (HS.cell hb2).trans d01, (HS.cell hb2).trans d02, (HS.cell hb2).trans d03, (HS.cell hb2).trans d10, (HS.cell hb2).trans d11, (HS.cell hb2).trans d12, (HS.cell hb2).trans d13⟩
  clear hK K
  try simp only [Act.put, List.setIfInBounds_toArray, List.set_cons_zero, List.set_cons_succ]
  refine wpAnyH_take (i := 10) (oi := { dst := Option.some 75, op := Go.Op.binOp Go.BinOp.add 9 (Go.Operand.tmp 71) (Go.Operand.tmp 74) 9, type := 9, pos := "ref.go:221", after := #[{ on := 6, ground := Go.Ground.data }, { on := 9, ground := Go.Ground.data }], guard := Option.none }) (v := .string B10) rfl (by kernel_rfl) (by kernel_rfl) (by kernel_rfl) (fun _ _ _ h => h) (Or.inl ⟨by rfl, ?_⟩) (by assumption) ?_
  · (intro w hSw; (try dsimp only at hSw); go_simp)
  try simp only [Act.put, List.setIfInBounds_toArray, List.set_cons_zero, List.set_cons_succ]
  refine wpAnyH_take (i := 11) (oi := { dst := Option.some 76, op := Go.Op.binOp Go.BinOp.add 9 (Go.Operand.tmp 75) (Go.Operand.const (Go.Value.string { data := #[32] })) 9, type := 9, pos := "ref.go:221", after := #[{ on := 10, ground := Go.Ground.data }], guard := Option.none }) (v := .string B11) rfl (by kernel_rfl) (by kernel_rfl) (by kernel_rfl) (fun _ _ _ h => h) (Or.inl ⟨by rfl, ?_⟩) (by assumption) ?_
  · (intro w hSw; (try dsimp only at hSw); go_simp)
  try simp only [Act.put, List.setIfInBounds_toArray, List.set_cons_zero, List.set_cons_succ]
  refine wpAnyH_ready (rs := [16]) (by kernel_rfl) (by simp) ?_
  refine AllReadyH.cons (o := { dst := Option.some 81, op := Go.Op.call { callee := Go.Callee.value (Go.Operand.func 15), args := #[Go.Operand.tmp 80], argTypes := #[26] }, type := 9, pos := "ref.go:221", after := #[{ on := 15, ground := Go.Ground.data }, { on := 9, ground := Go.Ground.chain }], guard := Option.none }) rfl (fun K hK => ?_) AllReadyH.nil
  go_simp
  refine (HC1.out _ HS).mono ?_
  rintro z wa ⟨rfl, hB'⟩
  replace HS := HS.trans (hB'.mono HS.size)
  clear hB'
  refine hK.out _ _ ?_ (fun hHeld => ?_)
  · exact ⟨HS, HX.out _ HS 0 _ rfl, HX.out _ HS 3 _ rfl, (HS.cell hb2).trans d00, (HS.cell hb2).trans d01, (HS.cell hb2).trans d02, (HS.cell hb2).trans d03, (HS.cell hb2).trans d10, (HS.cell hb2).trans d11, (HS.cell hb2).trans d12, (HS.cell hb2).trans d13⟩
  clear hK K
  try simp only [Act.put, List.setIfInBounds_toArray, List.set_cons_zero, List.set_cons_succ]
  refine wpAnyH_take (i := 17) (oi := { dst := Option.some 82, op := Go.Op.binOp Go.BinOp.add 9 (Go.Operand.tmp 76) (Go.Operand.tmp 81) 9, type := 9, pos := "ref.go:221", after := #[{ on := 11, ground := Go.Ground.data }, { on := 16, ground := Go.Ground.data }], guard := Option.none }) (v := .string B17) rfl (by kernel_rfl) (by kernel_rfl) (by kernel_rfl) (fun _ _ _ h => h) (Or.inl ⟨by rfl, ?_⟩) (by assumption) ?_
  · (intro w hSw; (try dsimp only at hSw); go_simp)
  try simp only [Act.put, List.setIfInBounds_toArray, List.set_cons_zero, List.set_cons_succ]
  refine wpAnyH_take (i := 18) (oi := { dst := Option.some 83, op := Go.Op.binOp Go.BinOp.add 9 (Go.Operand.tmp 82) (Go.Operand.const (Go.Value.string { data := #[41] })) 9, type := 9, pos := "ref.go:221", after := #[{ on := 17, ground := Go.Ground.data }], guard := Option.none }) (v := .string B18) rfl (by kernel_rfl) (by kernel_rfl) (by kernel_rfl) (fun _ _ _ h => h) (Or.inl ⟨by rfl, ?_⟩) (by assumption) ?_
  · (intro w hSw; (try dsimp only at hSw); go_simp)
  try simp only [Act.put, List.setIfInBounds_toArray, List.set_cons_zero, List.set_cons_succ]
  refine wpAnyH_take (i := 19) (oi := { dst := Option.some 2, op := Go.Op.assign (Go.Operand.tmp 83), type := 9, pos := "ref.go:221", after := #[{ on := 18, ground := Go.Ground.data }, { on := 16, ground := Go.Ground.chain }, { on := 0, ground := Go.Ground.phase }, { on := 1, ground := Go.Ground.phase }, { on := 2, ground := Go.Ground.phase }, { on := 3, ground := Go.Ground.phase }, { on := 4, ground := Go.Ground.phase }, { on := 5, ground := Go.Ground.phase }, { on := 6, ground := Go.Ground.phase }, { on := 7, ground := Go.Ground.phase }, { on := 8, ground := Go.Ground.phase }, { on := 9, ground := Go.Ground.phase }, { on := 10, ground := Go.Ground.phase }, { on := 11, ground := Go.Ground.phase }, { on := 12, ground := Go.Ground.phase }, { on := 13, ground := Go.Ground.phase }, { on := 14, ground := Go.Ground.phase }, { on := 15, ground := Go.Ground.phase }, { on := 16, ground := Go.Ground.phase }, { on := 17, ground := Go.Ground.phase }, { on := 18, ground := Go.Ground.phase }], guard := Option.none }) (v := ?_) rfl (by kernel_rfl) (by kernel_rfl) (by kernel_rfl) (fun _ _ _ h => h) (Or.inl ⟨by rfl, ?_⟩) (by assumption) ?_
  rotate_left
  · (intro w hSw; (try dsimp only at hSw); go_simp; try with_reducible rfl)
  try simp only [Act.put, List.setIfInBounds_toArray, List.set_cons_zero, List.set_cons_succ]
  refine wpAnyH_done (by kernel_rfl) ?_ _
  have HE := Lib.hid (HB1.out.trans (HS.mono HB1.out.size))
  go_wp2_with fail
  go_ret
  exact ⟨ret_strE HF.out.symm, HE.out⟩

set_option maxHeartbeats 6400000 in
theorem re_const (wd : Nat) (nm : List UInt8) (p : Option Addr) (l c : Nat) (w : World) (hG : Glob w) (hw : wd < 18446744073709551616) :
    Calls Tryz.prog 15 #[.agg #[.int .i64 1, .int .u64 (wd : Int), .string (str nm), .slice p l c]] w fun e w' => e = .returned (.string (str (Lib.decDigits wd))) ∧ Below w.heap.size w w' := by
  have HB1 := Lib.hid ((Below.refl _ w).alloc (Nat.le_refl _) (.cells #[.int .i64 1, .int .u64 (wd : Int), .string (str nm), .slice p l c] 26))
  have HU := Lib.hid (formatUint_any wd hw _ (hG.later HB1.out))
  clear hG
  go_enter Tryz.func15, Tryz.ntmps15
  go_wp2_with fail
  refine HU.out.mono ?_
  rintro e w2 ⟨rfl, hB⟩
  have HE := Lib.hid (HB1.out.trans (hB.mono HB1.out.size))
  clear hB
  go_wp2_with fail
  go_ret
  exact ⟨rfl, HE.out⟩
set_option maxHeartbeats 6400000 in
theorem re_var (wd : Nat) (nm : List UInt8) (p : Option Addr) (l c : Nat) (w : World) :
    Calls Tryz.prog 15 #[.agg #[.int .i64 2, .int .u64 (wd : Int), .string (str nm), .slice p l c]] w fun e w' => e = .returned (.string (str nm)) ∧ Below w.heap.size w w' := by
  have HB1 := Lib.hid ((Below.refl _ w).alloc (Nat.le_refl _) (.cells #[.int .i64 2, .int .u64 (wd : Int), .string (str nm), .slice p l c] 26))
  go_enter Tryz.func15, Tryz.ntmps15
  go_wp2_with fail
  go_ret
  exact ⟨rfl, HB1.out⟩
theorem re_step (n : Nat) (ih : RE n) : RE (n + 1) := by
  intro x hxs hm hl p c N w hx hN hG
  obtain ⟨op, wd, nm, ar⟩ := x
  obtain ⟨hlen, hma, hok⟩ := may_parts hm
  have hin := hx.1
  have hwd := hx.2
  simp only [Ex.args] at hin
  simp only [Ex.word] at hwd
  simp only [Ex.size] at hxs
  have hop : op = 1 ∨ op = 2 ∨ op = 3 ∨ op = 4 ∨ op = 5 ∨ op = 21 ∨ (6 ≤ op ∧ op ≤ 20) := by
    rcases Int.lt_or_le op 1 with h | h
    · rw [okOp_no (by omega)] at hok; cases hok
    · rcases Int.lt_or_le 21 op with h' | h'
      · rw [okOp_no (by omega)] at hok; cases hok
      · omega
  have one : ar.len = 1 → ∃ y, ar = .cons y .nil ∧ y.size < n ∧ y.may = true ∧ ∃ b2 o2, p = some ⟨b2, o2, none⟩ ∧ b2 < N ∧ y.At w N b2 o2 := fun h => by
    obtain ⟨y, rfl⟩ := Exs.one h
    simp only [Exs.size] at hxs
    rw [Exs.may, Bool.and_eq_true] at hma
    obtain ⟨b2, o2, e1, e2, e3⟩ := Exs.In.some' (l := .cons y .nil) hin (by simp [Exs.len])
    exact ⟨y, rfl, by omega, hma.1, b2, o2, e1, e2, e3.1⟩
  rcases hop with rfl | rfl | rfl | rfl | rfl | rfl | hop
  · exact re_const wd nm p _ c w hG hwd
  · exact re_var wd nm p _ c w
  · obtain ⟨y, rfl, hys, hym, b2, o2, rfl, hb, hy⟩ := one hlen
    exact re_index n ih wd nm b2 o2 c N w hG hN hb y hys hym hy hl
  · obtain ⟨y, rfl, hys, hym, b2, o2, rfl, hb, hy⟩ := one hlen
    exact re_not n ih wd nm b2 o2 c N w hG hN hb y hys hym hy hl
  · obtain ⟨y, rfl, hys, hym, b2, o2, rfl, hb, hy⟩ := one hlen
    exact re_neg n ih wd nm b2 o2 c N w hG hN hb y hys hym hy hl
  · obtain ⟨y, z, u, rfl⟩ : ∃ y z u, ar = .cons y (.cons z (.cons u .nil)) := by
      cases ar with
      | nil => simp [Exs.len, argsN] at hlen
      | cons y r => cases r with
        | nil => simp [Exs.len, argsN] at hlen
        | cons z r => cases r with
          | nil => simp [Exs.len, argsN] at hlen
          | cons u r => cases r with
            | nil => exact ⟨y, z, u, rfl⟩
            | cons => simp [Exs.len, argsN] at hlen
    simp only [Exs.size] at hxs
    rw [Exs.may, Exs.may, Exs.may, Bool.and_eq_true, Bool.and_eq_true, Bool.and_eq_true] at hma
    obtain ⟨b2, o2, rfl, e2, e3⟩ := Exs.In.some' (l := .cons y (.cons z (.cons u .nil))) hin (by simp [Exs.len])
    exact re_pick n ih wd nm b2 o2 c N w hG hN e2 y (by omega) hma.1 e3.1 z (by omega) hma.2.1 e3.2.1 u (by omega) hma.2.2.1 e3.2.2.1 hl
  · have h2' : ar.len = 2 := by rw [hlen, argsN, if_neg (by omega), if_pos hop]
    obtain ⟨y, z, rfl⟩ := Exs.two h2'
    simp only [Exs.size] at hxs
    rw [Exs.may, Exs.may, Bool.and_eq_true, Bool.and_eq_true] at hma
    obtain ⟨b2, o2, rfl, e2, e3⟩ := Exs.In.some' (l := .cons y (.cons z .nil)) hin (by simp [Exs.len])
    exact re_two n ih op hop wd nm b2 o2 c N w hG hN e2 y (by omega) hma.1 e3.1 z (by omega) hma.2.1 e3.2.1 hl
theorem re_to : ∀ n, RE n
  | 0 => fun _ h => absurd h (Nat.not_lt_zero _)
  | n + 1 => re_step n (re_to n)
theorem rExpr_any (x : Ex) (hm : x.may = true) (hl : x.text.length ≤ 1000000) (p : Option Addr) (c N : Nat) (w : World) (h : x.Ok w N p) (hN : N ≤ w.heap.size) (hG : Glob w) :
    Calls Tryz.prog 15 #[x.val p c] w fun e w' => e = .returned (.string (str x.text)) ∧ Below w.heap.size w w' :=
  re_to _ x (Nat.lt_succ_self _) hm hl p c N w h hN hG
end Go.Proofs.YtlhbledakddbbaaGreatDoor
