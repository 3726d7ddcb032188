/- The text of an array's place. -/
import Derived.Test.YtlhbledakddbbaaGreatDoorA4
import Derived.Deep.RegionHeld3
import Derived.StillTailTactics
namespace Go.Proofs.YtlhbledakddbbaaGreatDoor
open Go.RowKit

theorem step_append_own {P : Program} {ops : Array Oper} {o : Oper} {a : Act} {w : World} {K : Act → World → Prop} {Q : Exit → Act → World → Prop} {E : Prop}
    (hgd : o.guard = none) (s x : Operand) (t : TypeId)
    (ho : o.op = .call { callee := .builtin .append, args := #[s, x], argTypes := #[t, t] })
    (base : Nat) (e : TypeId) (i : TypeInfo) (z : Value) (size bytes : Nat) (ht : P.underlying t = some (.slice e)) (hi : P.info? e = some i) (hz : i.zero = some z)
    (hsize : i.size = size) (hby : i.bytes = bytes) (hzs : z.cells.size = size) (hsz : 0 < size)
    (v : Value) (n : Nat) (xs : List Value) (hs : a.eval s = v) (hown : w.ownsRow base e size v n xs)
    (ad : Addr) (m c : Nat) (news : List Value) (hx : a.eval x = .slice (some ad) m c) (hl : news.length = m * size) (hnews : ∀ j u, news[j]? = some u → w.cell? (ad.add j) = some u) (h1 : ∀ u ∈ news, u.oneCell' = true)
    (h63 : n + m ≤ maxLen) (hbytes : (n + m) * bytes ≤ 140737488355328) (hbase : base ≤ w.heap.size)
    (h : ∀ v' w', w'.ownsRow base e size v' (n + m) (xs ++ news) → w.grownBy w' v.ownBlock → K (a.put o.dst v') w') :
    if Region.wanted o (yielded ops a.tmps) = true then Oper.wp P o a w K Q else E := by
  have hw : Region.wanted o (yielded ops a.tmps) = true := by simp [Region.wanted, hgd]
  rw [if_pos hw]
  exact wp_append_own w s x t ho base e i z size bytes ht hi hz hsize hby hzs hsz v n xs hs hown ad m c news hx hl hnews h1 h63 hbytes hbase fun v' w' h2 h3 _ => h v' w' h2 h3
/-- an append of one byte, behind the row that holds it -/
theorem step_byte {B : Nat} {bs : List UInt8} {c : UInt8} {ops : Array Oper} {o : Oper} {a : Act} {w : World} {K : Act → World → Prop} {Q : Exit → Act → World → Prop} {E : Prop} {v : Value}
    (hgd : o.guard = none) (s x : Operand)
    (ho : o.op = .call { callee := .builtin .append, args := #[s, x], argTypes := #[83, 83] })
    (hs : a.eval s = v) (hR : BRow B w bs v) (hB : B ≤ w.heap.size) (hl : bs.length ≤ 1000000000)
    (hx : a.eval x = .slice (some ⟨w.heap.size, 0, none⟩) 1 1)
    (h : ∀ v' w', BRow B w' (bs ++ [c]) v' → Fr B w w' → K (a.put o.dst v') w') :
    if Region.wanted o (yielded ops a.tmps) = true then Oper.wp Tryz.prog o a (w.alloc (.cells #[.int .u8 (c.toNat : Int)] 5)) K Q else E := by
  obtain ⟨i0, hi, hz0, hz1, hz2⟩ := info_parts'
  refine step_append_own hgd s x 83 ho B 5 i0 (.int .u8 0) 1 1 Tryz.underlying83 hi hz0 hz1 hz2 rfl (by decide) v bs.length (Lib.byteCells bs) hs (hR.alloc _) ⟨w.heap.size, 0, none⟩ 1 1 [.int .u8 (c.toNat : Int)] hx rfl ?_ ?_ ?_ ?_ ?_ ?_
  · intro j u hj; match j, hj with
    | 0, hj => simp at hj; subst hj; simp [go_sem, Addr.add]
  · intro u hu; simp at hu; subst hu; rfl
  · unfold maxLen; omega
  · omega
  · simp; omega
  · intro v' w' h1 h2
    obtain ⟨h3, h4⟩ := brow_app hR hB h1 h2
    exact h v' w' h3 h4

def TellTo (n : Nat) : Prop := ∀ (x : Ex), x.size < n → x.may = true → ∀ (b o N B m : Nat) (v : Value) (bs : List UInt8) (w : World), b < N → N ≤ B → x.At w N b o → TEnv B m w → BRow B w bs v → bs.length + x.text.length ≤ 1000000000 →
    Calls Tryz.prog 80 #[.agg #[.map (some m)], v, .pointer (some ⟨b, o, none⟩)] w fun e w' => (∃ v', e = .returned v' ∧ BRow B w' (bs ++ x.text) v') ∧ Fr B w w'

set_option maxRecDepth 100000 in
set_option maxHeartbeats 3200000 in
theorem place_step (n : Nat) (ih : TellTo n) (x : Ex) (hxs : x.size < n) (hm : x.may = true) (nm : List UInt8) (b o N B m : Nat) (v : Value) (bs : List UInt8) (w : World) (hb : b < N) (hN : N ≤ B) (hx : x.At w N b o) (he : TEnv B m w) (hR : BRow B w bs v) (hl : bs.length + (nm ++ [91] ++ x.text ++ [93]).length ≤ 1000000000) :
    Calls Tryz.prog 119 #[.agg #[.map (some m)], v, .string (str nm), .pointer (some ⟨b, o, none⟩)] w fun e w' => (∃ v', e = .returned v' ∧ BRow B w' (bs ++ (nm ++ [91] ++ x.text ++ [93])) v') ∧ Fr B w w' := by
  obtain ⟨i0, hi, hz0, hz1, hz2⟩ := info_parts'
  simp only [List.length_append, List.length_cons, List.length_nil] at hl
  have HIH := Lib.hid (fun v bs w h1 h2 h3 h4 => ih x hxs hm b o N B m v bs w hb hN h1 h2 h3 h4)
  have HX := Lib.hid (fun w' (h : Fr B w w') => Ex.At.later (h.1.mono hN) (Nat.le_refl _) x b o hb hx)
  have HE := Lib.hid he
  have hbw := he.bw
  have HF1 := Lib.hid ((Fr.refl B w).alloc he.bw (.cells #[.map (some m)] 68))
  have HG1 := Lib.hid (heap_alloc_new w (.cells #[.map (some m)] 68))
  have HR1 : Hid (BRow B (w.alloc (.cells #[.map (some m)] 68)) bs v) := Lib.hid (hR.later ((Below.refl _ _).alloc (Nat.le_refl _) _))
  have HSz := Lib.hid (size_str nm)
  have HTx := Lib.hid (show bs.length + (str nm).size ≤ 1000000000 by rw [size_str]; omega)
  have hbw1 : B ≤ (w.alloc (.cells #[.map (some m)] 68)).heap.size := Nat.le_trans hbw (by simp)
  clear ih hx he hR
  go_enter Tryz.func119, Tryz.ntmps119
  have hown_ := HR1.out
  unfold BRow at hown_
  go_wp2_with (at_builtin; refine Lib.wpList_append_own_string _ rfl _ _ 83 9 rfl B 5 i0 Tryz.underlying83 Tryz.underlying9 hi hz0 hz1 hz2 _ _ _ rfl hown_ (str nm) rfl ?y1c ?y1d ?y1e ?_)
  case y1c => have := HTx.out; unfold maxLen; omega
  case y1d => have := HTx.out; omega
  case y1e => exact hbw1
  intro v2 w2 hown hgrow _
  have hap := brow_apps HR1.out hbw1 hown hgrow
  have HR2 := Lib.hid hap.1
  have HF2a := Lib.hid hap.2
  clear hown hgrow hap hown_
  have HR2 := Lib.hid (show BRow B w2 (bs ++ nm) v2 from HR2.out)
  have HF2 := Lib.hid (HF1.out.trans HF2a.out)
  have hg2 := HF2a.out.cell HG1.out (by decide)
  have HG2 := Lib.hid hg2
  have c2 := cell_of_one hg2
  have hbw2 := Nat.le_trans hbw HF2.out.1.size
  have HL2 := Lib.hid (show (bs ++ nm).length ≤ 1000000000 by rw [List.length_append]; omega)
  have HL3 := Lib.hid (show (bs ++ nm ++ [91]).length + x.text.length ≤ 1000000000 by simp only [List.length_append, List.length_cons, List.length_nil]; omega)
  have HL4 := Lib.hid (show (bs ++ nm ++ [91] ++ x.text).length + 1 ≤ 1000000000 by simp only [List.length_append, List.length_cons, List.length_nil]; omega)
  clear hg2 HTx HR1 hbw1 HF2a hl
  go_wp2_with fail
  go_region_held3 (fun W => W.cell? ⟨w.heap.size, 0, none⟩ = some (.map (some m)))
    (first | go_keep | assumption)
    (first
      | (refine step_byte (B := B) (bs := bs ++ nm) (c := 91) (w := w2.drew) rfl (.tmp 13) (.tmp 14) rfl (by rfl) (HR2.out.later (Below.refl _ _).drew) hbw2 HL2.out (by rfl) ?_
         intro v3 w3 hR3 hF3
         have hc3 : w3.cell? ⟨w.heap.size, 0, none⟩ = some (.map (some m)) := cell_of_one (hF3.cell HG2.out (by decide))
         have HF3 := Lib.hid (HF2.out.drew.trans hF3)
         have HG3 := Lib.hid (hF3.cell HG2.out (by decide)))
      | (go_at_call 80
         refine (HIH.out _ _ _ (HX.out _ HF3.out) (HE.out.later HF3.out.1) hR3 HL3.out).mono ?_
         rintro e w4 ⟨⟨v4, rfl, hR4⟩, hF4⟩
         have hc4 : w4.cell? ⟨w.heap.size, 0, none⟩ = some (.map (some m)) := cell_of_one (hF4.cell HG3.out (by decide))))
  have HR4 := Lib.hid hR4
  have HF4 := Lib.hid (HF3.out.trans hF4)
  have hbw4 := Nat.le_trans hbw HF4.out.1.size
  clear hR4 hF4 hR3 hF3 hc3 hc4
  obtain ⟨ly2, hly2⟩ : ∃ l, bs ++ nm ++ [91] ++ x.text = l := ⟨_, rfl⟩
  have HLy2 := Lib.hid hly2
  rw [hly2] at HR4 HL4
  clear hly2
  have hown_ := HR4.out
  unfold BRow at hown_
  go_wp2_with (at_builtin; refine wpList_append_own _ rfl _ _ 83 rfl B 5 i0 (.int .u8 0) 1 1 Tryz.underlying83 hi hz0 hz1 hz2 rfl (by decide) _ _ _ rfl (hown_.alloc _) ⟨w4.heap.size, 0, none⟩ 1 1 [.int .u8 93] rfl rfl ?y2a ?y2b ?y2c ?y2d ?y2e ?_)
  case y2a => intro j u hj; match j, hj with
    | 0, hj => simp at hj; subst hj; simp [go_sem, Addr.add]
  case y2b => intro u hu; simp at hu; subst hu; rfl
  case y2c => have := HL4.out; unfold maxLen; omega
  case y2d => have := HL4.out; omega
  case y2e => exact Nat.le_trans hbw4 (by simp)
  intro v5 w5 hown hgrow _
  have hap := brow_app (c := 93) HR4.out hbw4 hown hgrow
  have HR5 := Lib.hid hap.1
  have HF5 := Lib.hid hap.2
  clear hown hgrow hap hown_
  rw [← HLy2.out] at HR5
  go_wp2_with fail
  go_ret
  exact ⟨⟨v5, rfl, by have h := HR5.out; simpa only [List.append_assoc] using h⟩, HF4.out.trans HF5.out⟩
end Go.Proofs.YtlhbledakddbbaaGreatDoor
