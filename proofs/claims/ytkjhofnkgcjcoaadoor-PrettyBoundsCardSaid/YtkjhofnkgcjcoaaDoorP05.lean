/- The text of an array's place. -/
import Derived.Test.YtkjhofnkgcjcoaaDoorP04
import Derived.Deep.RegionHeld3
import Derived.StillTailTactics
import Derived.Lib.Join
namespace Go.Proofs.YtkjhofnkgcjcoaaDoor
open Go.RowKit

theorem step_append_own {P : Program} {ops : Array Oper} {o : Oper} {a : Act} {w : World} {K : Act → World → Prop} {Q : Exit → Act → World → Prop} {E : Prop}
    (hgd : o.guard = none) (s x : Operand) (t : TypeId)
    (ho : o.op = .call { callee := .builtin .append, args := #[s, x], argTypes := #[t, t] })
    (base : Nat) (e : TypeId) (i : TypeInfo) (ht : P.underlying t = some (.slice e)) (hi : P.info? e = some i) (hz : i.zero = some (.int .u8 0)) (hsize : i.size = 1) (hby : i.bytes = 1)
    (v : Value) (n : Nat) (xs : List Value) (hs : a.eval s = v) (hown : OwnT w base e v n xs)
    (ad : Addr) (m c : Nat) (news : List Value) (hx : a.eval x = .slice (some ad) m c) (hl : news.length = m) (hnews : ∀ j u, news[j]? = some u → w.cell? (ad.add j) = some u) (h1 : ∀ u ∈ news, u.oneCell' = true)
    (h63 : n + m ≤ maxLen) (hbytes : n + m ≤ 140737488355328) (hbase : base ≤ w.heap.size)
    (h : ∀ v' w', OwnT w' base e v' (n + m) (xs ++ news) → w.grownBy w' v.ownBlock → K (a.put o.dst v') w') :
    if Region.wanted o (yielded ops a.tmps) = true then Oper.wp P o a w K Q else E := by
  have hw : Region.wanted o (yielded ops a.tmps) = true := by simp [Region.wanted, hgd]
  rw [if_pos hw]
  exact wp_append_T w s x t ho base e i ht hi hz hsize hby v n xs hs hown ad m c news hx hl hnews h1 h63 hbytes hbase h
/-- an append of one byte, behind the row that holds it -/
theorem step_byte {B : Nat} {bs : List UInt8} {c : UInt8} {ops : Array Oper} {o : Oper} {a : Act} {w : World} {K : Act → World → Prop} {Q : Exit → Act → World → Prop} {E : Prop} {v : Value}
    (hgd : o.guard = none) (s x : Operand)
    (ho : o.op = .call { callee := .builtin .append, args := #[s, x], argTypes := #[64, 64] })
    (hs : a.eval s = v) (hR : BRow B w bs v) (hB : B ≤ w.heap.size) (hl : bs.length ≤ 1000000000)
    (hx : a.eval x = .slice (some ⟨w.heap.size, 0, none⟩) 1 1)
    (h : ∀ v' w', BRow B w' (bs ++ [c]) v' → Fr B w w' → K (a.put o.dst v') w') :
    if Region.wanted o (yielded ops a.tmps) = true then Oper.wp Tryd.prog o a (w.alloc (.cells #[.int .u8 (c.toNat : Int)] 5)) K Q else E := by
  obtain ⟨i0, hi, hz0, hz1, hz2⟩ := info_parts'
  refine step_append_own hgd s x 64 ho B 5 i0 Tryd.underlying64 hi hz0 hz1 hz2 v bs.length (Lib.byteCells bs) hs (hR.alloc _) ⟨w.heap.size, 0, none⟩ 1 1 [.int .u8 (c.toNat : Int)] hx rfl ?_ ?_ ?_ ?_ ?_ ?_
  · intro j u hj; match j, hj with
    | 0, hj => simp at hj; subst hj; simp [go_sem, Addr.add]
  · intro u hu; simp at hu; subst hu; rfl
  · unfold maxLen; omega
  · omega
  · simp; omega
  · intro v' w' h1 h2
    obtain ⟨h3, h4⟩ := brow_app hR hB h1 h2
    exact h v' w' h3 h4

def TellTo (n : Nat) : Prop := ∀ (x : Ex), x.size < n → x.may = true → ∀ (b o N B m : Nat) (v : Value) (bs : List UInt8) (w : World), b < N → N ≤ B → x.At w N b o → TEnv B m w → BRow B w bs v → bs.length + x.text.length ≤ 1000000000 →
    Calls Tryd.prog 38 #[.agg #[.map (some m)], v, .pointer (some ⟨b, o, none⟩)] w fun e w' => (∃ v', e = .returned v' ∧ BRow B w' (bs ++ x.text) v') ∧ Fr B w w'

set_option maxRecDepth 100000 in
set_option maxHeartbeats 3200000 in
theorem place_step (n : Nat) (ih : TellTo n) (x : Ex) (hxs : x.size < n) (hm : x.may = true) (nm : List UInt8) (b o N B m : Nat) (v : Value) (bs : List UInt8) (w : World) (hb : b < N) (hN : N ≤ B) (hx : x.At w N b o) (he : TEnv B m w) (hR : BRow B w bs v) (hl : bs.length + (nm ++ [91] ++ x.text ++ [93]).length ≤ 1000000000) :
    Calls Tryd.prog 60 #[.agg #[.map (some m)], v, .string (str nm), .pointer (some ⟨b, o, none⟩)] w fun e w' => (∃ v', e = .returned v' ∧ BRow B w' (bs ++ (nm ++ [91] ++ x.text ++ [93])) v') ∧ Fr B w w' := by
  obtain ⟨i0, hi, hz0, hz1, hz2⟩ := info_parts'
  simp only [List.length_append, List.length_cons, List.length_nil] at hl
  have HIH := Lib.hid (fun v bs w h1 h2 h3 h4 => ih x hxs hm b o N B m v bs w hb hN h1 h2 h3 h4)
  have HX := Lib.hid (fun w' (h : Fr B w w') => Ex.At.later (h.1.mono hN) (Nat.le_refl _) x b o hb hx)
  have HE := Lib.hid he
  have hbw := he.bw
  have HF1 := Lib.hid ((Fr.refl B w).alloc he.bw (.cells #[.map (some m)] 58))
  have HG1 := Lib.hid (heap_alloc_new w (.cells #[.map (some m)] 58))
  have HR1 : Hid (BRow B (w.alloc (.cells #[.map (some m)] 58)) bs v) := Lib.hid (hR.later ((Below.refl _ _).alloc (Nat.le_refl _) _))
  have HSz := Lib.hid (size_str nm)
  have HTx := Lib.hid (show bs.length + (str nm).size ≤ 1000000000 by rw [size_str]; omega)
  have hbw1 : B ≤ (w.alloc (.cells #[.map (some m)] 58)).heap.size := Nat.le_trans hbw (by simp)
  clear ih hx he hR
  go_enter Tryd.func60, Tryd.ntmps60
  have hown_ := HR1.out
  unfold BRow at hown_
  go_wp2_with (at_builtin; refine wpList_append_str_T _ rfl _ _ 64 9 rfl B 5 i0 Tryd.underlying64 Tryd.underlying9 hi hz0 hz1 hz2 _ _ _ rfl hown_ (str nm) rfl ?y1c ?y1d ?y1e ?_)
  case y1c => have := HTx.out; unfold maxLen; omega
  case y1d => have := HTx.out; omega
  case y1e => exact hbw1
  intro v2 w2 hown hgrow
  have hap := brow_apps HR1.out hbw1 hown hgrow
  have HR2 := Lib.hid hap.1
  have HF2a := Lib.hid hap.2
  clear hown hgrow hap hown_
  have HR2 := Lib.hid (show BRow B w2 (bs ++ nm) v2 from HR2.out)
  have HF2 := Lib.hid (HF1.out.trans HF2a.out)
  have hg2 := HF2a.out.cell HG1.out (by decide)
  have HG2 := Lib.hid hg2
  have c2 := cell_of_one hg2
  have hbw2 := Nat.le_trans hbw HF2.out.1.size
  have HL2 := Lib.hid (show (bs ++ nm).length ≤ 1000000000 by rw [List.length_append]; omega)
  have HL3 := Lib.hid (show (bs ++ nm ++ [91]).length + x.text.length ≤ 1000000000 by simp only [List.length_append, List.length_cons, List.length_nil]; omega)
  have HL4 := Lib.hid (show (bs ++ nm ++ [91] ++ x.text).length + 1 ≤ 1000000000 by simp only [List.length_append, List.length_cons, List.length_nil]; omega)
  clear hg2 HTx HR1 hbw1 HF2a hl
  go_wp2_with fail
  go_region_held3 (fun W => W.cell? ⟨w.heap.size, 0, none⟩ = some (.map (some m)))
    (first | go_keep | assumption)
    (first
      | (refine step_byte (B := B) (bs := bs ++ nm) (c := 91) (w := w2.drew) rfl (.tmp 13) (.tmp 14) rfl (by rfl) (HR2.out.later (Below.refl _ _).drew) hbw2 HL2.out (by rfl) ?_
         intro v3 w3 hR3 hF3
         have hc3 : w3.cell? ⟨w.heap.size, 0, none⟩ = some (.map (some m)) := cell_of_one (hF3.cell HG2.out (by decide))
         have HF3 := Lib.hid (HF2.out.drew.trans hF3)
         have HG3 := Lib.hid (hF3.cell HG2.out (by decide)))
      | (go_at_call 38
         refine (HIH.out _ _ _ (HX.out _ HF3.out) (HE.out.later HF3.out.1) hR3 HL3.out).mono ?_
         rintro e w4 ⟨⟨v4, rfl, hR4⟩, hF4⟩
         have hc4 : w4.cell? ⟨w.heap.size, 0, none⟩ = some (.map (some m)) := cell_of_one (hF4.cell HG3.out (by decide))))
  have HR4 := Lib.hid hR4
  have HF4 := Lib.hid (HF3.out.trans hF4)
  have hbw4 := Nat.le_trans hbw HF4.out.1.size
  clear hR4 hF4 hR3 hF3 hc3 hc4
  obtain ⟨ly2, hly2⟩ : ∃ l, bs ++ nm ++ [91] ++ x.text = l := ⟨_, rfl⟩
  have HLy2 := Lib.hid hly2
  rw [hly2] at HR4 HL4
  clear hly2
  have hown_ := HR4.out
  unfold BRow at hown_
  go_wp2_with (at_builtin; refine wpList_append_T _ rfl _ _ 64 rfl B 5 i0 Tryd.underlying64 hi hz0 hz1 hz2 _ _ _ rfl (hown_.alloc _) ⟨w4.heap.size, 0, none⟩ 1 1 [.int .u8 93] rfl rfl ?y2a ?y2b ?y2c ?y2d ?y2e ?_)
  case y2a => intro j u hj; match j, hj with
    | 0, hj => simp at hj; subst hj; simp [go_sem, Addr.add]
  case y2b => intro u hu; simp at hu; subst hu; rfl
  case y2c => have := HL4.out; unfold maxLen; omega
  case y2d => have := HL4.out; omega
  case y2e => exact Nat.le_trans hbw4 (by simp)
  intro v5 w5 hown hgrow
  have hap := brow_app (c := 93) HR4.out hbw4 hown hgrow
  have HR5 := Lib.hid hap.1
  have HF5 := Lib.hid hap.2
  clear hown hgrow hap hown_
  rw [← HLy2.out] at HR5
  go_wp2_with fail
  go_ret
  exact ⟨⟨v5, rfl, by have h := HR5.out; simpa only [List.append_assoc] using h⟩, HF4.out.trans HF5.out⟩
end Go.Proofs.YtkjhofnkgcjcoaaDoor
/- The text of a list of expressions. -/
namespace Go.Proofs.YtkjhofnkgcjcoaaDoor
open Go.RowKit

def Exs.ok : Exs → Bool
  | .nil => true
  | .cons x r => x.may && r.ok
theorem Exs.may_ok : ∀ l : Exs, l.may = l.ok
  | .nil => rfl
  | .cons x r => by rw [Exs.may, Exs.ok, Exs.may_ok r]
theorem join_len (ts : List (List UInt8)) (J T : List UInt8) (h : Lib.join ts [44, 32] = J ++ T) : J.length + T.length = (Lib.join ts [44, 32]).length := by rw [h, List.length_append]

set_option maxRecDepth 100000 in
set_option maxHeartbeats 6400000 in
theorem list_step (n : Nat) (ih : TellTo n) (l : Exs) (hls : l.size < n) (hm : l.may = true) (p : Option Addr) (c N B m : Nat) (v : Value) (bs : List UInt8) (w : World) (hN : N ≤ B) (hx : l.In w N p) (he : TEnv B m w) (hR : BRow B w bs v) (hl : bs.length + ([40] ++ Lib.join l.texts [44, 32] ++ [41]).length ≤ 1000000000) :
    Calls Tryd.prog 61 #[.agg #[.map (some m)], v, .slice p l.len c] w fun e w' => (∃ v', e = .returned v' ∧ BRow B w' (bs ++ ([40] ++ Lib.join l.texts [44, 32] ++ [41])) v') ∧ Fr B w w' := by
  obtain ⟨i0, hi, hz0, hz1, hz2⟩ := info_parts'
  simp only [List.length_append, List.length_cons, List.length_nil] at hl
  have IH := Lib.hid ih
  have HX := Lib.hid hx
  have HE := Lib.hid he
  have hbw := he.bw
  have HF1 := Lib.hid ((Fr.refl B w).alloc he.bw (.cells #[.map (some m)] 58))
  have HG1 := Lib.hid (heap_alloc_new w (.cells #[.map (some m)] 58))
  have HR1 : Hid (BRow B (w.alloc (.cells #[.map (some m)] 58)) bs v) := Lib.hid (hR.later ((Below.refl _ _).alloc (Nat.le_refl _) _))
  have hbw1 : B ≤ (w.alloc (.cells #[.map (some m)] 58)).heap.size := Nat.le_trans hbw (by simp)
  have HT1 := Lib.hid (show bs.length + 1 ≤ 1000000000 by omega)
  clear ih hx he hR
  go_enter Tryd.func61, Tryd.ntmps61
  have hown_ := HR1.out
  unfold BRow at hown_
  go_wp2_with (at_builtin; refine wpList_append_T _ rfl _ _ 64 rfl B 5 i0 Tryd.underlying64 hi hz0 hz1 hz2 _ _ _ rfl (hown_.alloc _) ⟨w.heap.size + 1, 0, none⟩ 1 1 [.int .u8 40] rfl rfl ?y1a ?y1b ?y1c ?y1d ?y1e ?_)
  case y1a => intro j u hj; match j, hj with
    | 0, hj => simp at hj; subst hj; simp [go_sem, Addr.add]
  case y1b => intro u hu; simp at hu; subst hu; rfl
  case y1c => have := HT1.out; unfold maxLen; omega
  case y1d => have := HT1.out; omega
  case y1e => exact Nat.le_trans hbw1 (by simp)
  intro v2 w2 hown hgrow
  have hap := brow_app (c := 40) HR1.out hbw1 hown hgrow
  have HR2 := Lib.hid hap.1
  have HF2a := Lib.hid hap.2
  clear hown hgrow hap hown_
  have HF2 := Lib.hid (HF1.out.trans HF2a.out)
  have HG2 := Lib.hid (HF2a.out.cell HG1.out (by decide))
  have HL := Lib.hid hl
  clear HT1 HR1 hbw1 HF2a hl
  go_wp2_with fail
  go_loopw [1, 13] (fun u i wr => ∃ (k : Nat) (r : Exs) (J : List UInt8) (v0 : Value), v0 = u ∧ i = .int .i64 k ∧ k + r.len = l.len ∧ r.size ≤ l.size ∧ Hid (r.ok = true) ∧ Hid ((k = 0 ∧ J = [] ∧ r = l) ∨ (0 < k ∧ Lib.join l.texts [44, 32] = J ++ Lib.joinTail [44, 32] r.texts)) ∧
      Hid (r.len = 0 ∨ ∃ b o, p = some ⟨b, o, none⟩ ∧ b < N ∧ r.At w N b (o + k * 4)) ∧ Hid (BRow B wr (bs ++ [40] ++ J) v0) ∧ Hid (Fr B w wr) ∧ Hid (wr.heap[w.heap.size]? = some (.cells #[.map (some m)] 58 (0, 0)))) (fun _ i _ => l.len - (intOf i).toNat)
  case atStart => exact ⟨0, l, [], _, rfl, rfl, by omega, Nat.le_refl _, Lib.hid (by rw [← Exs.may_ok]; exact hm), Lib.hid (.inl ⟨rfl, rfl, rfl⟩), Lib.hid (by
    rcases HX.out.2 with h | ⟨b, o, h1, h2, h3⟩
    · exact .inl h
    · exact .inr ⟨b, o, h1, h2, by rw [Nat.zero_mul]; exact h3⟩), Lib.hid (by rw [List.append_nil]; exact HR2.out), HF2, HG2⟩
  case round =>
    obtain ⟨k, r, J, u, rfl, rfl, hk, hrs, hok, hJ, hAt, hRow, hFr, hG⟩ := hrel
    have hbwr := Nat.le_trans hbw hFr.out.1.size
    cases r with
    | nil =>
      simp only [Exs.len] at hk
      have hge : ¬ k < l.len := by omega
      have HJ := Lib.hid (show J = Lib.join l.texts [44, 32] by
        rcases hJ.out with ⟨_, h2, h3⟩ | ⟨_, h2⟩
        · rw [h2, ← h3]; rfl
        · rw [h2, Exs.texts]; simp [Lib.joinTail])
      have HT3 := Lib.hid (show (bs ++ [40] ++ J).length + 1 ≤ 1000000000 by have := HL.out; rw [HJ.out]; simp only [List.length_append, List.length_cons, List.length_nil]; omega)
      have HRow := hRow
      obtain ⟨ly2, hly2⟩ : ∃ l, bs ++ [40] ++ J = l := ⟨_, rfl⟩
      have HLy2 := Lib.hid hly2
      rw [hly2] at HRow HT3
      clear hly2
      have hown_ := HRow.out
      unfold BRow at hown_
      go_wp2_with (at_builtin; refine wpList_append_T _ rfl _ _ 64 rfl B 5 i0 Tryd.underlying64 hi hz0 hz1 hz2 _ _ _ rfl (hown_.alloc _) ⟨wr.heap.size, 0, none⟩ 1 1 [.int .u8 41] rfl rfl ?y2a ?y2b ?y2c ?y2d ?y2e ?_)
      case y2a => intro j u hj; match j, hj with
        | 0, hj => simp at hj; subst hj; simp [go_sem, Addr.add]
      case y2b => intro u hu; simp at hu; subst hu; rfl
      case y2c => have := HT3.out; unfold maxLen; omega
      case y2d => have := HT3.out; omega
      case y2e => exact Nat.le_trans hbwr (by simp)
      intro v5 w5 hown hgrow
      have hap := brow_app (c := 41) HRow.out hbwr hown hgrow
      have HR5 := Lib.hid hap.1
      have HF5 := Lib.hid hap.2
      clear hown hgrow hap hown_
      rw [← HLy2.out] at HR5
      go_wp2_with fail
      go_ret
      exact ⟨⟨v5, rfl, by have h := HR5.out; rw [HJ.out] at h; simpa using h⟩, hFr.out.trans HF5.out⟩
    | cons x r =>
      simp only [Exs.len] at hk
      simp only [Exs.size] at hrs
      have hlt : k < l.len := by omega
      obtain ⟨b, o, rfl, hb, hxr⟩ : ∃ b o, p = some ⟨b, o, none⟩ ∧ b < N ∧ (Exs.cons x r).At w N b (o + k * 4) := by
        rcases hAt.out with h0 | h0
        · simp [Exs.len] at h0
        · exact h0
      have hmx : x.may = true ∧ r.ok = true := by have h := hok.out; rw [Exs.ok, Bool.and_eq_true] at h; exact h
      have HOk := Lib.hid hmx.2
      have HIH := Lib.hid (fun v bs w h1 h2 h3 h4 => IH.out x (by omega) hmx.1 b (o + k * 4) N B m v bs w hb hN h1 h2 h3 h4)
      have HXl := Lib.hid (fun w' (h : Fr B w w') => Ex.At.later (h.1.mono hN) (Nat.le_refl _) x b (o + k * 4) hb hxr.1)
      have HAt2 := Lib.hid (show r.len = 0 ∨ ∃ b' o', (some (⟨b, o, none⟩ : Addr)) = some ⟨b', o', none⟩ ∧ b' < N ∧ r.At w N b' (o' + (k + 1) * 4) from .inr ⟨b, o, rfl, hb, by rw [show o + (k + 1) * 4 = o + k * 4 + 4 by omega]; exact hxr.2⟩)
      clear hAt hxr hmx hok
      have i0' : (0 : Int) ≤ (k : Int) := by omega
      have i1' : (k : Int) < (l.len : Int) := by omega
      have HK := Lib.hid (show k + 1 + r.len = l.len ∧ k < l.len from ⟨by omega, hlt⟩)
      have hkb : k ≤ 140737488355328 := by have := HX.out.1; omega
      rcases Nat.eq_zero_or_pos k with hk0 | hkp
      · subst hk0
        have HJ := Lib.hid (show J = [] ∧ Lib.join l.texts [44, 32] = x.text ++ Lib.joinTail [44, 32] r.texts by
          rcases hJ.out with ⟨_, h2, h3⟩ | ⟨h2, _⟩
          · rw [← h3]; exact ⟨h2, Lib.join_cons _ _ _⟩
          · omega)
        have hRw := hRow.out
        rw [HJ.out.1, List.append_nil] at hRw
        have HRw := Lib.hid hRw
        have HL3 := Lib.hid (show (bs ++ [40]).length + x.text.length ≤ 1000000000 by have h := HL.out; rw [HJ.out.2, List.length_append] at h; simp only [List.length_append, List.length_cons, List.length_nil]; omega)
        have c2 := cell_of_one hG.out
        have HC := Lib.hid (HIH.out _ _ wr.drew (HXl.out _ hFr.out.drew) ((HE.out.later hFr.out.1).later (Below.refl _ _).drew) (hRw.later (Below.refl _ _).drew) HL3.out)
        have HN := Lib.hid (show Lib.join l.texts [44, 32] = x.text ++ Lib.joinTail [44, 32] r.texts from HJ.out.2)
        clear hRw hRow hJ HJ
        go_wp2_with fail
        go_region_held3 (fun W => W.cell? ⟨w.heap.size, 0, none⟩ = some (.map (some m)))
          (first | go_keep | assumption)
          (first
            | (go_at_call 38
               refine HC.out.mono ?_
               rintro e w4 ⟨⟨v4, rfl, hR4⟩, hF4⟩
               have hc4 : w4.cell? ⟨w.heap.size, 0, none⟩ = some (.map (some m)) := cell_of_one (hF4.cell (g := w.heap.size) (cs := #[.map (some m)]) (t := 58) (fz := (0, 0)) hG.out (by decide))))
        have HR4 := Lib.hid (show BRow B w4 (bs ++ [40] ++ x.text) v4 from hR4)
        have HF4 := Lib.hid (hFr.out.drew.trans hF4)
        have HG4 := Lib.hid (hF4.cell (g := w.heap.size) (cs := #[.map (some m)]) (t := 58) (fz := (0, 0)) hG.out (by decide))
        clear hR4 hF4 hc4
        go_wp2_with fail
        go_roundw
        case rel => exact ⟨1, r, x.text, v4, rfl, rfl, by omega, by omega, HOk, Lib.hid (.inr ⟨by omega, HN.out⟩), HAt2, HR4, HF4, HG4⟩
        case measure => simp [intOf]; omega
      · have hgt : (0 : Int) < (k : Int) := by omega
        have HN := Lib.hid (show Lib.join l.texts [44, 32] = J ++ [44, 32] ++ x.text ++ Lib.joinTail [44, 32] r.texts by
          rcases hJ.out with ⟨h2, _⟩ | ⟨_, h2⟩
          · omega
          · rw [h2, Exs.texts]; simp [Lib.joinTail])
        have HT4 := Lib.hid (show (bs ++ [40] ++ J).length + (⟨#[44, 32]⟩ : ByteArray).size ≤ 1000000000 by have h := HL.out; rw [HN.out] at h; simp only [List.length_append, List.length_cons, List.length_nil] at h ⊢; show _ + 2 ≤ _; omega)
        have HL3 := Lib.hid (show (bs ++ [40] ++ J ++ [44, 32]).length + x.text.length ≤ 1000000000 by have h := HL.out; rw [HN.out] at h; simp only [List.length_append, List.length_cons, List.length_nil] at h ⊢; omega)
        have HRow := hRow
        clear hJ
        obtain ⟨ly3, hly3⟩ : ∃ l, bs ++ [40] ++ J = l := ⟨_, rfl⟩
        have HLy3 := Lib.hid hly3
        rw [hly3] at HRow HT4
        clear hly3
        have hown_ := HRow.out
        unfold BRow at hown_
        go_wp2_with (at_builtin; refine wpList_append_str_T _ rfl _ _ 64 9 rfl B 5 i0 Tryd.underlying64 Tryd.underlying9 hi hz0 hz1 hz2 _ _ _ rfl hown_ ⟨#[44, 32]⟩ rfl ?y3c ?y3d ?y3e ?_)
        case y3c => have := HT4.out; unfold maxLen; omega
        case y3d => have := HT4.out; omega
        case y3e => exact hbwr
        intro v5 w5 hown hgrow
        have hap := brow_apps HRow.out hbwr hown hgrow
        have HR5 := Lib.hid hap.1
        have HF5a := Lib.hid hap.2
        clear hown hgrow hap hown_
        rw [← HLy3.out] at HR5
        have HR5' := Lib.hid (show BRow B w5 (bs ++ [40] ++ J ++ [44, 32]) v5 from HR5.out)
        have HF5 := Lib.hid (hFr.out.trans HF5a.out)
        have HG5 := Lib.hid (HF5a.out.cell hG.out (by decide))
        have c2 := cell_of_one HG5.out
        have HC := Lib.hid (HIH.out _ _ w5.drew (HXl.out _ HF5.out.drew) ((HE.out.later HF5.out.1).later (Below.refl _ _).drew) (HR5'.out.later (Below.refl _ _).drew) HL3.out)
        clear HF5a HR5 hRow
        go_wp2_with fail
        go_region_held3 (fun W => W.cell? ⟨w.heap.size, 0, none⟩ = some (.map (some m)))
          (first | go_keep | assumption)
          (first
            | (go_at_call 38
               refine HC.out.mono ?_
               rintro e w4 ⟨⟨v4, rfl, hR4⟩, hF4⟩
               have hc4 : w4.cell? ⟨w.heap.size, 0, none⟩ = some (.map (some m)) := cell_of_one (hF4.cell (g := w.heap.size) (cs := #[.map (some m)]) (t := 58) (fz := (0, 0)) HG5.out (by decide))))
        have HR4 := Lib.hid (show BRow B w4 (bs ++ [40] ++ (J ++ [44, 32] ++ x.text)) v4 by simpa only [List.append_assoc] using hR4)
        have HF4 := Lib.hid (HF5.out.drew.trans hF4)
        have HG4 := Lib.hid (hF4.cell (g := w.heap.size) (cs := #[.map (some m)]) (t := 58) (fz := (0, 0)) HG5.out (by decide))
        clear hR4 hF4 hc4
        go_wp2_with fail
        go_roundw
        case rel => exact ⟨k + 1, r, J ++ [44, 32] ++ x.text, v4, rfl, by go_num, HK.out.1, by omega, HOk, Lib.hid (.inr ⟨by omega, HN.out⟩), HAt2, HR4, HF4, HG4⟩
        case measure => have := HK.out.2; simp [intOf]; omega
end Go.Proofs.YtkjhofnkgcjcoaaDoor
