/- The text of an expression: its walk. -/
import Derived.Test.YtkjhofnkgcjcoaaDoorP05
namespace Go.Proofs.YtkjhofnkgcjcoaaDoor
open Go.RowKit

/-- an append of a text, behind a row -/
theorem step_str {B : Nat} {bs : List UInt8} {s : ByteArray} {ops : Array Oper} {o : Oper} {a : Act} {w : World} {K : Act → World → Prop} {Q : Exit → Act → World → Prop} {E : Prop} {v : Value}
    (hgd : o.guard = none) (sl x : Operand)
    (ho : o.op = .call { callee := .builtin .append, args := #[sl, x], argTypes := #[64, 9] })
    (hs : a.eval sl = v) (hR : BRow B w bs v) (hB : B ≤ w.heap.size) (hl : bs.length + s.size ≤ 1000000000)
    (hx : a.eval x = .string s)
    (h : ∀ v' w', BRow B w' (bs ++ s.data.toList) v' → Fr B w w' → K (a.put o.dst v') w') :
    if Region.wanted o (yielded ops a.tmps) = true then Oper.wp Tryd.prog o a w K Q else E := by
  obtain ⟨i0, hi, hz0, hz1, hz2⟩ := info_parts'
  have hw : Region.wanted o (yielded ops a.tmps) = true := by simp [Region.wanted, hgd]
  rw [if_pos hw]
  obtain ⟨v', w', hr, h2, h3⟩ := append_str_T (P := Tryd.prog) w B 64 9 o.type 5 i0 Tryd.underlying64 Tryd.underlying9 hi hz0 hz1 hz2 v bs.length (Lib.byteCells bs) hR s (by unfold maxLen; omega) (by omega) hB
  obtain ⟨h4, h5⟩ := brow_apps hR hB h2 h3
  unfold Oper.wp execOp
  simp only [ho, resolve, invoke, builtin, Sem.run_bind, Sem.run_pure, Result.andThen_ok, List.map_toArray, List.map_cons, List.map_nil, hs, hx, hr]
  exact h v' w' h4 h5

/-- the walk's facts -/
structure XF (B m N b o g : Nat) (op : Int) (wd : Nat) (nm : List UInt8) (p : Option Addr) (k c : Nat) (W : World) : Prop where
  te : W.heap[g]? = some (.cells #[.map (some m)] 58 (0, 0))
  c0 : W.cell? ⟨b, o, none⟩ = some (.int .i64 op)
  c1 : W.cell? ⟨b, o + 1, none⟩ = some (.int .u64 (wd : Int))
  c2 : W.cell? ⟨b, o + 2, none⟩ = some (.string (str nm))
  c3 : W.cell? ⟨b, o + 3, none⟩ = some (.slice p k c)
theorem XF.later {B m N b o g : Nat} {op : Int} {wd : Nat} {nm : List UInt8} {p : Option Addr} {k c : Nat} {W W' : World} (h : XF B m N b o g op wd nm p k c W) (hb : b < B) (hF : Fr B W W') : XF B m N b o g op wd nm p k c W' :=
  ⟨hF.cell h.te (by decide), (hF.1.cell (p := ⟨b, o, none⟩) hb).trans h.c0, (hF.1.cell (p := ⟨b, o + 1, none⟩) hb).trans h.c1, (hF.1.cell (p := ⟨b, o + 2, none⟩) hb).trans h.c2, (hF.1.cell (p := ⟨b, o + 3, none⟩) hb).trans h.c3⟩
theorem XF.S {B m N b o g : Nat} {op : Int} {wd : Nat} {nm : List UInt8} {p : Option Addr} {k c : Nat} {W : World} (h : XF B m N b o g op wd nm p k c W) : W.cell? ⟨g, 0, none⟩ = some (.map (some m)) ∧ W.cell? ⟨b, o, none⟩ = some (.int .i64 op) ∧ W.cell? ⟨b, o + 2, none⟩ = some (.string (str nm)) ∧ W.cell? ⟨b, o + 3, none⟩ = some (.slice p k c) :=
  ⟨cell_of_one h.te, h.c0, h.c2, h.c3⟩
theorem run_sign_field (s : ByteArray) (w : World) : (Instr.field 115 (.agg #[.string s]) 0).run Tryd.prog w = .ok (.string s) w := by first | kernel_rfl | simp [go_sem]
theorem Exs.two {l : Exs} (h : l.len = 2) : ∃ x y, l = .cons x (.cons y .nil) := by
  cases l with
  | nil => cases h
  | cons x r => cases r with
    | nil => cases h
    | cons y q => cases q with
      | nil => exact ⟨x, y, rfl⟩
      | cons z s => simp [Exs.len] at h
theorem Exs.one {l : Exs} (h : l.len = 1) : ∃ x, l = .cons x .nil := by
  cases l with
  | nil => cases h
  | cons x r => cases r with
    | nil => exact ⟨x, rfl⟩
    | cons y q => simp [Exs.len] at h
/-- where the arguments lie -/
theorem Exs.In.some' {w : World} {N : Nat} {l : Exs} {p : Option Addr} (h : l.In w N p) (h0 : 0 < l.len) : ∃ b o, p = some ⟨b, o, none⟩ ∧ b < N ∧ l.At w N b o := by
  rcases h.2 with h | h
  · omega
  · exact h

set_option maxRecDepth 100000 in
set_option maxHeartbeats 3200000 in
theorem expr_const (b o N B m : Nat) (v : Value) (bs : List UInt8) (w : World) (hb : b < N) (hN : N ≤ B) (he : TEnv B m w) (hR : BRow B w bs v) (wd : Nat) (nm : List UInt8) (p : Option Addr) (k c : Nat) (hw : wd < 18446744073709551616)
    (hc : w.cell? ⟨b, o, none⟩ = some (.int .i64 1) ∧ w.cell? ⟨b, o + 1, none⟩ = some (.int .u64 (wd : Int)) ∧ w.cell? ⟨b, o + 2, none⟩ = some (.string (str nm)) ∧ w.cell? ⟨b, o + 3, none⟩ = some (.slice p k c))
    (hl : bs.length + (Lib.decDigits wd).length ≤ 1000000000) :
    Calls Tryd.prog 38 #[.agg #[.map (some m)], v, .pointer (some ⟨b, o, none⟩)] w fun e w' => (∃ v', e = .returned v' ∧ BRow B w' (bs ++ (Lib.decDigits wd)) v') ∧ Fr B w w' := by
  obtain ⟨i0, hi, hz0, hz1, hz2⟩ := info_parts'
  have hbw := he.bw
  have hbB : b < B := by omega
  have HF1 := Lib.hid ((Fr.refl B w).alloc hbw (.cells #[.map (some m)] 58))
  have HR1 : Hid (BRow B (w.alloc (.cells #[.map (some m)] 58)) bs v) := Lib.hid (hR.later ((Below.refl _ _).alloc (Nat.le_refl _) _))
  have hbw1 : B ≤ (w.alloc (.cells #[.map (some m)] 58)).heap.size := Nat.le_trans hbw (by simp)
  have HE := Lib.hid he
  have HX1 : Hid (XF B m N b o w.heap.size (1) wd nm p k c (w.alloc (.cells #[.map (some m)] 58))) := Lib.hid
    ⟨heap_alloc_new w _, (HF1.out.1.cell (p := ⟨b, o, none⟩) hbB).trans hc.1, (HF1.out.1.cell (p := ⟨b, o + 1, none⟩) hbB).trans hc.2.1, (HF1.out.1.cell (p := ⟨b, o + 2, none⟩) hbB).trans hc.2.2.1, (HF1.out.1.cell (p := ⟨b, o + 3, none⟩) hbB).trans hc.2.2.2⟩
  obtain ⟨h0, h1, h2, h3⟩ := hc
  have hbz : b < w.heap.size := by omega
  clear hR he
  have HC := Lib.hid (appendUint_any B wd bs v m _ hw HR1.out (HE.out.later HF1.out.1) (by omega))
  clear HR1
  go_enter Tryd.func38, Tryd.ntmps38
  go_wp2_with fail
  refine HC.out.mono ?_
  rintro e w2 ⟨⟨v2, rfl, hR2⟩, hF2⟩
  have HR2 := Lib.hid hR2
  have HF2 := Lib.hid (HF1.out.trans hF2)
  clear hR2 hF2
  go_wp2_with fail
  go_ret
  exact ⟨⟨v2, rfl, HR2.out⟩, HF2.out⟩

set_option maxRecDepth 100000 in
set_option maxHeartbeats 3200000 in
theorem expr_var (b o N B m : Nat) (v : Value) (bs : List UInt8) (w : World) (hb : b < N) (hN : N ≤ B) (he : TEnv B m w) (hR : BRow B w bs v) (wd : Nat) (nm : List UInt8) (p : Option Addr) (k c : Nat) 
    (hc : w.cell? ⟨b, o, none⟩ = some (.int .i64 2) ∧ w.cell? ⟨b, o + 1, none⟩ = some (.int .u64 (wd : Int)) ∧ w.cell? ⟨b, o + 2, none⟩ = some (.string (str nm)) ∧ w.cell? ⟨b, o + 3, none⟩ = some (.slice p k c))
    (hl : bs.length + (nm).length ≤ 1000000000) :
    Calls Tryd.prog 38 #[.agg #[.map (some m)], v, .pointer (some ⟨b, o, none⟩)] w fun e w' => (∃ v', e = .returned v' ∧ BRow B w' (bs ++ (nm)) v') ∧ Fr B w w' := by
  obtain ⟨i0, hi, hz0, hz1, hz2⟩ := info_parts'
  have hbw := he.bw
  have hbB : b < B := by omega
  have HF1 := Lib.hid ((Fr.refl B w).alloc hbw (.cells #[.map (some m)] 58))
  have HR1 : Hid (BRow B (w.alloc (.cells #[.map (some m)] 58)) bs v) := Lib.hid (hR.later ((Below.refl _ _).alloc (Nat.le_refl _) _))
  have hbw1 : B ≤ (w.alloc (.cells #[.map (some m)] 58)).heap.size := Nat.le_trans hbw (by simp)
  have HE := Lib.hid he
  have HX1 : Hid (XF B m N b o w.heap.size (2) wd nm p k c (w.alloc (.cells #[.map (some m)] 58))) := Lib.hid
    ⟨heap_alloc_new w _, (HF1.out.1.cell (p := ⟨b, o, none⟩) hbB).trans hc.1, (HF1.out.1.cell (p := ⟨b, o + 1, none⟩) hbB).trans hc.2.1, (HF1.out.1.cell (p := ⟨b, o + 2, none⟩) hbB).trans hc.2.2.1, (HF1.out.1.cell (p := ⟨b, o + 3, none⟩) hbB).trans hc.2.2.2⟩
  obtain ⟨h0, h1, h2, h3⟩ := hc
  have hbz : b < w.heap.size := by omega
  clear hR he
  have HT := Lib.hid (show bs.length + (str nm).size ≤ 1000000000 by rw [size_str]; exact hl)
  go_enter Tryd.func38, Tryd.ntmps38
  have hown_ := HR1.out
  unfold BRow at hown_
  go_wp2_with (at_builtin; refine wpList_append_str_T _ rfl _ _ 64 9 rfl B 5 i0 Tryd.underlying64 Tryd.underlying9 hi hz0 hz1 hz2 _ _ _ rfl hown_ (str nm) rfl ?y1c ?y1d ?y1e ?_)
  case y1c => have := HT.out; unfold maxLen; omega
  case y1d => have := HT.out; omega
  case y1e => exact hbw1
  intro v2 w2 hown hgrow
  have hap := brow_apps HR1.out hbw1 hown hgrow
  have HR2 := Lib.hid hap.1
  have HF2 := Lib.hid hap.2
  clear hown hgrow hap hown_
  go_wp2_with fail
  go_ret
  exact ⟨⟨v2, rfl, HR2.out⟩, HF1.out.trans HF2.out⟩

set_option maxRecDepth 100000 in
set_option maxHeartbeats 3200000 in
theorem expr_index (b o N B m : Nat) (v : Value) (bs : List UInt8) (w : World) (hb : b < N) (hN : N ≤ B) (he : TEnv B m w) (hR : BRow B w bs v) (wd : Nat) (nm : List UInt8) (p : Option Addr) (k c : Nat) (n : Nat) (ih : TellTo n) (x : Ex) (hxs : x.size < n) (hm : x.may = true) (hk : k = 1) (hsub : ∃ b2 o2, p = some ⟨b2, o2, none⟩ ∧ b2 < N ∧ x.At w N b2 o2)
    (hc : w.cell? ⟨b, o, none⟩ = some (.int .i64 3) ∧ w.cell? ⟨b, o + 1, none⟩ = some (.int .u64 (wd : Int)) ∧ w.cell? ⟨b, o + 2, none⟩ = some (.string (str nm)) ∧ w.cell? ⟨b, o + 3, none⟩ = some (.slice p k c))
    (hl : bs.length + (nm ++ [91] ++ x.text ++ [93]).length ≤ 1000000000) :
    Calls Tryd.prog 38 #[.agg #[.map (some m)], v, .pointer (some ⟨b, o, none⟩)] w fun e w' => (∃ v', e = .returned v' ∧ BRow B w' (bs ++ (nm ++ [91] ++ x.text ++ [93])) v') ∧ Fr B w w' := by
  obtain ⟨i0, hi, hz0, hz1, hz2⟩ := info_parts'
  have hbw := he.bw
  have hbB : b < B := by omega
  have HF1 := Lib.hid ((Fr.refl B w).alloc hbw (.cells #[.map (some m)] 58))
  have HR1 : Hid (BRow B (w.alloc (.cells #[.map (some m)] 58)) bs v) := Lib.hid (hR.later ((Below.refl _ _).alloc (Nat.le_refl _) _))
  have hbw1 : B ≤ (w.alloc (.cells #[.map (some m)] 58)).heap.size := Nat.le_trans hbw (by simp)
  have HE := Lib.hid he
  have HX1 : Hid (XF B m N b o w.heap.size (3) wd nm p k c (w.alloc (.cells #[.map (some m)] 58))) := Lib.hid
    ⟨heap_alloc_new w _, (HF1.out.1.cell (p := ⟨b, o, none⟩) hbB).trans hc.1, (HF1.out.1.cell (p := ⟨b, o + 1, none⟩) hbB).trans hc.2.1, (HF1.out.1.cell (p := ⟨b, o + 2, none⟩) hbB).trans hc.2.2.1, (HF1.out.1.cell (p := ⟨b, o + 3, none⟩) hbB).trans hc.2.2.2⟩
  obtain ⟨h0, h1, h2, h3⟩ := hc
  have hbz : b < w.heap.size := by omega
  clear hR he
  obtain ⟨b2, o2, rfl, hb2, hx2⟩ : ∃ b2 o2, p = some ⟨b2, o2, none⟩ ∧ b2 < N ∧ x.At w N b2 o2 := hsub
  have hk0 : 0 < k := by omega
  have HC := Lib.hid (place_step n ih x hxs hm nm b2 o2 N B m v bs _ hb2 hN (Ex.At.later (HF1.out.drew.1.mono hN) (Nat.le_refl _) x b2 o2 hb2 hx2) (HE.out.later HF1.out.drew.1) (HR1.out.later (Below.refl _ _).drew) hl)
  clear HR1 ih hx2
  subst hk
  go_enter Tryd.func38, Tryd.ntmps38
  go_wp2_with fail
  go_region_held3 (fun W => W.cell? ⟨w.heap.size, 0, none⟩ = some (.map (some m)) ∧ W.cell? ⟨b, o, none⟩ = some (.int .i64 3) ∧ W.cell? ⟨b, o + 2, none⟩ = some (.string (str nm)) ∧ W.cell? ⟨b, o + 3, none⟩ = some (.slice (some ⟨b2, o2, none⟩) 1 c))
    (first | go_keep | assumption | exact HX1.out.S | exact (HX1.out.later hbB ((Fr.refl _ _).drew)).S)
    (first
      | (go_at_call 60
         refine HC.out.mono ?_
         rintro e w4 ⟨⟨v4, rfl, hR4⟩, hF4⟩
         have hS4 := ((HX1.out.later hbB ((Fr.refl _ _).drew)).later hbB hF4).S))
  have HR4 := Lib.hid hR4
  have HF4 := Lib.hid (HF1.out.drew.trans hF4)
  clear hR4 hF4 hS4
  go_wp2_with fail
  go_ret
  exact ⟨⟨v4, rfl, HR4.out⟩, HF4.out⟩

set_option maxRecDepth 100000 in
set_option maxHeartbeats 3200000 in
theorem expr_not (b o N B m : Nat) (v : Value) (bs : List UInt8) (w : World) (hb : b < N) (hN : N ≤ B) (he : TEnv B m w) (hR : BRow B w bs v) (wd : Nat) (nm : List UInt8) (p : Option Addr) (k c : Nat) (n : Nat) (ih : TellTo n) (x : Ex) (hxs : x.size < n) (hm : x.may = true) (hk : k = 1) (hsub : ∃ b2 o2, p = some ⟨b2, o2, none⟩ ∧ b2 < N ∧ x.At w N b2 o2)
    (hc : w.cell? ⟨b, o, none⟩ = some (.int .i64 4) ∧ w.cell? ⟨b, o + 1, none⟩ = some (.int .u64 (wd : Int)) ∧ w.cell? ⟨b, o + 2, none⟩ = some (.string (str nm)) ∧ w.cell? ⟨b, o + 3, none⟩ = some (.slice p k c))
    (hl : bs.length + ([126] ++ x.text).length ≤ 1000000000) :
    Calls Tryd.prog 38 #[.agg #[.map (some m)], v, .pointer (some ⟨b, o, none⟩)] w fun e w' => (∃ v', e = .returned v' ∧ BRow B w' (bs ++ ([126] ++ x.text)) v') ∧ Fr B w w' := by
  obtain ⟨i0, hi, hz0, hz1, hz2⟩ := info_parts'
  have hbw := he.bw
  have hbB : b < B := by omega
  have HF1 := Lib.hid ((Fr.refl B w).alloc hbw (.cells #[.map (some m)] 58))
  have HR1 : Hid (BRow B (w.alloc (.cells #[.map (some m)] 58)) bs v) := Lib.hid (hR.later ((Below.refl _ _).alloc (Nat.le_refl _) _))
  have hbw1 : B ≤ (w.alloc (.cells #[.map (some m)] 58)).heap.size := Nat.le_trans hbw (by simp)
  have HE := Lib.hid he
  have HX1 : Hid (XF B m N b o w.heap.size (4) wd nm p k c (w.alloc (.cells #[.map (some m)] 58))) := Lib.hid
    ⟨heap_alloc_new w _, (HF1.out.1.cell (p := ⟨b, o, none⟩) hbB).trans hc.1, (HF1.out.1.cell (p := ⟨b, o + 1, none⟩) hbB).trans hc.2.1, (HF1.out.1.cell (p := ⟨b, o + 2, none⟩) hbB).trans hc.2.2.1, (HF1.out.1.cell (p := ⟨b, o + 3, none⟩) hbB).trans hc.2.2.2⟩
  obtain ⟨h0, h1, h2, h3⟩ := hc
  have hbz : b < w.heap.size := by omega
  clear hR he
  obtain ⟨b2, o2, rfl, hb2, hx2⟩ : ∃ b2 o2, p = some ⟨b2, o2, none⟩ ∧ b2 < N ∧ x.At w N b2 o2 := hsub
  have hk0 : 0 < k := by omega
  have HIH := Lib.hid (fun v bs w h1 h2 h3 h4 => ih x hxs hm b2 o2 N B m v bs w hb2 hN h1 h2 h3 h4)
  have HXl := Lib.hid (fun w' (h : Fr B w w') => Ex.At.later (h.1.mono hN) (Nat.le_refl _) x b2 o2 hb2 hx2)
  have HL2 := Lib.hid (show (bs ++ [126]).length + x.text.length ≤ 1000000000 by simp only [List.length_append, List.length_cons, List.length_nil] at hl ⊢; omega)
  have HL1 := Lib.hid (show bs.length ≤ 1000000000 by omega)
  clear ih hx2
  subst hk
  go_enter Tryd.func38, Tryd.ntmps38
  go_wp2_with fail
  obtain ⟨w1, hw1⟩ : ∃ w1, w.alloc (.cells #[.map (some m)] 58) = w1 := ⟨_, rfl⟩
  rw [hw1] at HR1 HX1 HF1 hbw1 ⊢
  clear hw1 h0 h1 h2 h3
  obtain ⟨z0, z1, z2, z3⟩ := HX1.out.S
  go_region_held3 (fun W => W.cell? ⟨w.heap.size, 0, none⟩ = some (.map (some m)) ∧ W.cell? ⟨b, o, none⟩ = some (.int .i64 4) ∧ W.cell? ⟨b, o + 2, none⟩ = some (.string (str nm)) ∧ W.cell? ⟨b, o + 3, none⟩ = some (.slice (some ⟨b2, o2, none⟩) 1 c))
    (first | go_keep | assumption | exact HX1.out.S | exact (HX1.out.later hbB ((Fr.refl _ _).drew)).S)
    (first
      | (refine step_byte (B := B) (bs := bs) (c := 126) (w := w1.drew) rfl (.tmp 44) (.tmp 45) rfl (by rfl) (HR1.out.later (Below.refl _ _).drew) hbw1 HL1.out (by rfl) ?_
         intro v3 w3 hR3 hF3
         have HF3 := Lib.hid (HF1.out.drew.trans hF3)
         have HX3 := Lib.hid ((HX1.out.later hbB ((Fr.refl _ _).drew)).later hbB hF3)
         have hS3 := HX3.out.S)
      | (go_at_call 38
         refine (HIH.out _ _ _ (HXl.out _ HF3.out) (HE.out.later HF3.out.1) hR3 HL2.out).mono ?_
         rintro e w4 ⟨⟨v4, rfl, hR4⟩, hF4⟩
         have hS4 := (HX3.out.later hbB hF4).S))
  have HR4 := Lib.hid hR4
  have HF4 := Lib.hid (HF3.out.trans hF4)
  clear hR4 hF4 hS4 hR3 hF3 hS3
  go_wp2_with fail
  go_ret
  exact ⟨⟨v4, rfl, by have h := HR4.out; simpa using h⟩, HF4.out⟩

set_option maxRecDepth 100000 in
set_option maxHeartbeats 3200000 in
theorem expr_neg (b o N B m : Nat) (v : Value) (bs : List UInt8) (w : World) (hb : b < N) (hN : N ≤ B) (he : TEnv B m w) (hR : BRow B w bs v) (wd : Nat) (nm : List UInt8) (p : Option Addr) (k c : Nat) (n : Nat) (ih : TellTo n) (x : Ex) (hxs : x.size < n) (hm : x.may = true) (hk : k = 1) (hsub : ∃ b2 o2, p = some ⟨b2, o2, none⟩ ∧ b2 < N ∧ x.At w N b2 o2)
    (hc : w.cell? ⟨b, o, none⟩ = some (.int .i64 5) ∧ w.cell? ⟨b, o + 1, none⟩ = some (.int .u64 (wd : Int)) ∧ w.cell? ⟨b, o + 2, none⟩ = some (.string (str nm)) ∧ w.cell? ⟨b, o + 3, none⟩ = some (.slice p k c))
    (hl : bs.length + ([45] ++ x.text).length ≤ 1000000000) :
    Calls Tryd.prog 38 #[.agg #[.map (some m)], v, .pointer (some ⟨b, o, none⟩)] w fun e w' => (∃ v', e = .returned v' ∧ BRow B w' (bs ++ ([45] ++ x.text)) v') ∧ Fr B w w' := by
  obtain ⟨i0, hi, hz0, hz1, hz2⟩ := info_parts'
  have hbw := he.bw
  have hbB : b < B := by omega
  have HF1 := Lib.hid ((Fr.refl B w).alloc hbw (.cells #[.map (some m)] 58))
  have HR1 : Hid (BRow B (w.alloc (.cells #[.map (some m)] 58)) bs v) := Lib.hid (hR.later ((Below.refl _ _).alloc (Nat.le_refl _) _))
  have hbw1 : B ≤ (w.alloc (.cells #[.map (some m)] 58)).heap.size := Nat.le_trans hbw (by simp)
  have HE := Lib.hid he
  have HX1 : Hid (XF B m N b o w.heap.size (5) wd nm p k c (w.alloc (.cells #[.map (some m)] 58))) := Lib.hid
    ⟨heap_alloc_new w _, (HF1.out.1.cell (p := ⟨b, o, none⟩) hbB).trans hc.1, (HF1.out.1.cell (p := ⟨b, o + 1, none⟩) hbB).trans hc.2.1, (HF1.out.1.cell (p := ⟨b, o + 2, none⟩) hbB).trans hc.2.2.1, (HF1.out.1.cell (p := ⟨b, o + 3, none⟩) hbB).trans hc.2.2.2⟩
  obtain ⟨h0, h1, h2, h3⟩ := hc
  have hbz : b < w.heap.size := by omega
  clear hR he
  obtain ⟨b2, o2, rfl, hb2, hx2⟩ : ∃ b2 o2, p = some ⟨b2, o2, none⟩ ∧ b2 < N ∧ x.At w N b2 o2 := hsub
  have hk0 : 0 < k := by omega
  have HIH := Lib.hid (fun v bs w h1 h2 h3 h4 => ih x hxs hm b2 o2 N B m v bs w hb2 hN h1 h2 h3 h4)
  have HXl := Lib.hid (fun w' (h : Fr B w w') => Ex.At.later (h.1.mono hN) (Nat.le_refl _) x b2 o2 hb2 hx2)
  have HL2 := Lib.hid (show (bs ++ [45]).length + x.text.length ≤ 1000000000 by simp only [List.length_append, List.length_cons, List.length_nil] at hl ⊢; omega)
  have HL1 := Lib.hid (show bs.length ≤ 1000000000 by omega)
  clear ih hx2
  subst hk
  go_enter Tryd.func38, Tryd.ntmps38
  go_wp2_with fail
  obtain ⟨w1, hw1⟩ : ∃ w1, w.alloc (.cells #[.map (some m)] 58) = w1 := ⟨_, rfl⟩
  rw [hw1] at HR1 HX1 HF1 hbw1 ⊢
  clear hw1 h0 h1 h2 h3
  obtain ⟨z0, z1, z2, z3⟩ := HX1.out.S
  go_region_held3 (fun W => W.cell? ⟨w.heap.size, 0, none⟩ = some (.map (some m)) ∧ W.cell? ⟨b, o, none⟩ = some (.int .i64 5) ∧ W.cell? ⟨b, o + 2, none⟩ = some (.string (str nm)) ∧ W.cell? ⟨b, o + 3, none⟩ = some (.slice (some ⟨b2, o2, none⟩) 1 c))
    (first | go_keep | assumption | exact HX1.out.S | exact (HX1.out.later hbB ((Fr.refl _ _).drew)).S)
    (first
      | (refine step_byte (B := B) (bs := bs) (c := 45) (w := w1.drew) rfl (.tmp 56) (.tmp 57) rfl (by rfl) (HR1.out.later (Below.refl _ _).drew) hbw1 HL1.out (by rfl) ?_
         intro v3 w3 hR3 hF3
         have HF3 := Lib.hid (HF1.out.drew.trans hF3)
         have HX3 := Lib.hid ((HX1.out.later hbB ((Fr.refl _ _).drew)).later hbB hF3)
         have hS3 := HX3.out.S)
      | (go_at_call 38
         refine (HIH.out _ _ _ (HXl.out _ HF3.out) (HE.out.later HF3.out.1) hR3 HL2.out).mono ?_
         rintro e w4 ⟨⟨v4, rfl, hR4⟩, hF4⟩
         have hS4 := (HX3.out.later hbB hF4).S))
  have HR4 := Lib.hid hR4
  have HF4 := Lib.hid (HF3.out.trans hF4)
  clear hR4 hF4 hS4 hR3 hF3 hS3
  go_wp2_with fail
  go_ret
  exact ⟨⟨v4, rfl, by have h := HR4.out; simpa using h⟩, HF4.out⟩

set_option maxRecDepth 100000 in
set_option maxHeartbeats 3200000 in
theorem expr_pick (b o N B m : Nat) (v : Value) (bs : List UInt8) (w : World) (hb : b < N) (hN : N ≤ B) (he : TEnv B m w) (hR : BRow B w bs v) (wd : Nat) (nm : List UInt8) (p : Option Addr) (k c : Nat) (n : Nat) (ih : TellTo n) (l : Exs) (hls : l.size < n) (hm : l.may = true) (hk : k = l.len) (hin : l.In w N p)
    (hc : w.cell? ⟨b, o, none⟩ = some (.int .i64 21) ∧ w.cell? ⟨b, o + 1, none⟩ = some (.int .u64 (wd : Int)) ∧ w.cell? ⟨b, o + 2, none⟩ = some (.string (str nm)) ∧ w.cell? ⟨b, o + 3, none⟩ = some (.slice p k c))
    (hl : bs.length + ([112, 105, 99, 107] ++ [40] ++ Lib.join l.texts [44, 32] ++ [41]).length ≤ 1000000000) :
    Calls Tryd.prog 38 #[.agg #[.map (some m)], v, .pointer (some ⟨b, o, none⟩)] w fun e w' => (∃ v', e = .returned v' ∧ BRow B w' (bs ++ ([112, 105, 99, 107] ++ [40] ++ Lib.join l.texts [44, 32] ++ [41])) v') ∧ Fr B w w' := by
  obtain ⟨i0, hi, hz0, hz1, hz2⟩ := info_parts'
  have hbw := he.bw
  have hbB : b < B := by omega
  have HF1 := Lib.hid ((Fr.refl B w).alloc hbw (.cells #[.map (some m)] 58))
  have HR1 : Hid (BRow B (w.alloc (.cells #[.map (some m)] 58)) bs v) := Lib.hid (hR.later ((Below.refl _ _).alloc (Nat.le_refl _) _))
  have hbw1 : B ≤ (w.alloc (.cells #[.map (some m)] 58)).heap.size := Nat.le_trans hbw (by simp)
  have HE := Lib.hid he
  have HX1 : Hid (XF B m N b o w.heap.size (21) wd nm p k c (w.alloc (.cells #[.map (some m)] 58))) := Lib.hid
    ⟨heap_alloc_new w _, (HF1.out.1.cell (p := ⟨b, o, none⟩) hbB).trans hc.1, (HF1.out.1.cell (p := ⟨b, o + 1, none⟩) hbB).trans hc.2.1, (HF1.out.1.cell (p := ⟨b, o + 2, none⟩) hbB).trans hc.2.2.1, (HF1.out.1.cell (p := ⟨b, o + 3, none⟩) hbB).trans hc.2.2.2⟩
  obtain ⟨h0, h1, h2, h3⟩ := hc
  have hbz : b < w.heap.size := by omega
  clear hR he
  have HIH := Lib.hid (fun v bs w h1 h2 h3 h4 => list_step n ih l hls hm p c N B m v bs w hN h1 h2 h3 h4)
  have HXl := Lib.hid (fun w' (h : Fr B w w') => hin.later (h.1.mono hN) (Nat.le_refl _))
  have HL2 := Lib.hid (show (bs ++ [112, 105, 99, 107]).length + ([40] ++ Lib.join l.texts [44, 32] ++ [41]).length ≤ 1000000000 by simp only [List.length_append, List.length_cons, List.length_nil] at hl ⊢; omega)
  have HL1 := Lib.hid (show bs.length + (⟨#[112, 105, 99, 107]⟩ : ByteArray).size ≤ 1000000000 by simp only [List.length_append, List.length_cons, List.length_nil] at hl; show bs.length + 4 ≤ _; omega)
  clear ih hin
  subst hk
  go_enter Tryd.func38, Tryd.ntmps38
  go_wp2_with fail
  obtain ⟨w1, hw1⟩ : ∃ w1, w.alloc (.cells #[.map (some m)] 58) = w1 := ⟨_, rfl⟩
  rw [hw1] at HR1 HX1 HF1 hbw1 ⊢
  clear hw1 h0 h1 h2 h3
  obtain ⟨z0, z1, z2, z3⟩ := HX1.out.S
  go_region_held3 (fun W => W.cell? ⟨w.heap.size, 0, none⟩ = some (.map (some m)) ∧ W.cell? ⟨b, o, none⟩ = some (.int .i64 21) ∧ W.cell? ⟨b, o + 2, none⟩ = some (.string (str nm)) ∧ W.cell? ⟨b, o + 3, none⟩ = some (.slice p l.len c))
    (first | go_keep | assumption)
    (first
      | (refine step_str (B := B) (bs := bs) (s := ⟨#[112, 105, 99, 107]⟩) (w := w1.drew) rfl (.tmp 68) (.const (.string ⟨#[112, 105, 99, 107]⟩)) rfl (by rfl) (HR1.out.later (Below.refl _ _).drew) hbw1 HL1.out (by rfl) ?_
         intro v3 w3 hR3 hF3
         have HF3 := Lib.hid (HF1.out.drew.trans hF3)
         have HX3 := Lib.hid ((HX1.out.later hbB ((Fr.refl _ _).drew)).later hbB hF3)
         have hS3 := HX3.out.S)
      | (go_at_call 61
         refine (HIH.out _ _ _ (HXl.out _ HF3.out) (HE.out.later HF3.out.1) hR3 HL2.out).mono ?_
         rintro e w4 ⟨⟨v4, rfl, hR4⟩, hF4⟩
         have hS4 := (HX3.out.later hbB hF4).S))
  have HR4 := Lib.hid hR4
  have HF4 := Lib.hid (HF3.out.trans hF4)
  clear hR4 hF4 hS4 hR3 hF3 hS3
  go_wp2_with fail
  go_ret
  exact ⟨⟨v4, rfl, by have h := HR4.out; simpa using h⟩, HF4.out⟩

set_option maxRecDepth 100000 in
set_option maxHeartbeats 3200000 in
theorem expr_two (b o N B m : Nat) (v : Value) (bs : List UInt8) (w : World) (hb : b < N) (hN : N ≤ B) (he : TEnv B m w) (hR : BRow B w bs v) (wd : Nat) (nm : List UInt8) (p : Option Addr) (k c : Nat) (n : Nat) (ih : TellTo n) (x y : Ex) (hxs : x.size < n) (hmx : x.may = true) (hys : y.size < n) (hmy : y.may = true) (op : Int) (ho : 6 ≤ op ∧ op ≤ 20) (hk : k = 2) (hsub : ∃ b2 o2, p = some ⟨b2, o2, none⟩ ∧ b2 < N ∧ x.At w N b2 o2 ∧ y.At w N b2 (o2 + 4))
    (hc : w.cell? ⟨b, o, none⟩ = some (.int .i64 op) ∧ w.cell? ⟨b, o + 1, none⟩ = some (.int .u64 (wd : Int)) ∧ w.cell? ⟨b, o + 2, none⟩ = some (.string (str nm)) ∧ w.cell? ⟨b, o + 3, none⟩ = some (.slice p k c))
    (hl : bs.length + ([40] ++ x.text ++ [32] ++ signOf op ++ [32] ++ y.text ++ [41]).length ≤ 1000000000) :
    Calls Tryd.prog 38 #[.agg #[.map (some m)], v, .pointer (some ⟨b, o, none⟩)] w fun e w' => (∃ v', e = .returned v' ∧ BRow B w' (bs ++ ([40] ++ x.text ++ [32] ++ signOf op ++ [32] ++ y.text ++ [41])) v') ∧ Fr B w w' := by
  obtain ⟨i0, hi, hz0, hz1, hz2⟩ := info_parts'
  have hbw := he.bw
  have hbB : b < B := by omega
  have HF1 := Lib.hid ((Fr.refl B w).alloc hbw (.cells #[.map (some m)] 58))
  have HR1 : Hid (BRow B (w.alloc (.cells #[.map (some m)] 58)) bs v) := Lib.hid (hR.later ((Below.refl _ _).alloc (Nat.le_refl _) _))
  have hbw1 : B ≤ (w.alloc (.cells #[.map (some m)] 58)).heap.size := Nat.le_trans hbw (by simp)
  have HE := Lib.hid he
  have HX1 : Hid (XF B m N b o w.heap.size (op) wd nm p k c (w.alloc (.cells #[.map (some m)] 58))) := Lib.hid
    ⟨heap_alloc_new w _, (HF1.out.1.cell (p := ⟨b, o, none⟩) hbB).trans hc.1, (HF1.out.1.cell (p := ⟨b, o + 1, none⟩) hbB).trans hc.2.1, (HF1.out.1.cell (p := ⟨b, o + 2, none⟩) hbB).trans hc.2.2.1, (HF1.out.1.cell (p := ⟨b, o + 3, none⟩) hbB).trans hc.2.2.2⟩
  obtain ⟨h0, h1, h2, h3⟩ := hc
  have hbz : b < w.heap.size := by omega
  clear hR he
  obtain ⟨b2, o2, rfl, hb2, hx2, hy2⟩ : ∃ b2 o2, p = some ⟨b2, o2, none⟩ ∧ b2 < N ∧ x.At w N b2 o2 ∧ y.At w N b2 (o2 + 4) := hsub
  have HIX := Lib.hid (fun v bs w h1 h2 h3 h4 => ih x hxs hmx b2 o2 N B m v bs w hb2 hN h1 h2 h3 h4)
  have HIY := Lib.hid (fun v bs w h1 h2 h3 h4 => ih y hys hmy b2 (o2 + 4) N B m v bs w hb2 hN h1 h2 h3 h4)
  have HXx := Lib.hid (fun w' (h : Fr B w w') => Ex.At.later (h.1.mono hN) (Nat.le_refl _) x b2 o2 hb2 hx2)
  have HXy := Lib.hid (fun w' (h : Fr B w w') => Ex.At.later (h.1.mono hN) (Nat.le_refl _) y b2 (o2 + 4) hb2 hy2)
  simp only [List.length_append, List.length_cons, List.length_nil] at hl
  have HL1 := Lib.hid (show bs.length ≤ 1000000000 by omega)
  have HL2 := Lib.hid (show (bs ++ [40]).length + x.text.length ≤ 1000000000 by simp only [List.length_append, List.length_cons, List.length_nil]; omega)
  have HL3 := Lib.hid (show (bs ++ [40] ++ x.text).length + 1 ≤ 1000000000 by simp only [List.length_append, List.length_cons, List.length_nil]; omega)
  have HL4 := Lib.hid (show (bs ++ [40] ++ x.text ++ [32]).length + (str (signOf op)).size ≤ 1000000000 by rw [size_str]; simp only [List.length_append, List.length_cons, List.length_nil]; omega)
  have HL5 := Lib.hid (show (bs ++ [40] ++ x.text ++ [32] ++ signOf op).length ≤ 1000000000 by simp only [List.length_append, List.length_cons, List.length_nil]; omega)
  have HL6 := Lib.hid (show (bs ++ [40] ++ x.text ++ [32] ++ signOf op ++ [32]).length + y.text.length ≤ 1000000000 by simp only [List.length_append, List.length_cons, List.length_nil]; omega)
  have HL7 := Lib.hid (show (bs ++ [40] ++ x.text ++ [32] ++ signOf op ++ [32] ++ y.text).length + 1 ≤ 1000000000 by simp only [List.length_append, List.length_cons, List.length_nil]; omega)
  have t1 : (op == 1) = false := by simp; omega
  have t2 : (op == 2) = false := by simp; omega
  have t3 : (op == 3) = false := by simp; omega
  have t4 : (op == 4) = false := by simp; omega
  have t5 : (op == 5) = false := by simp; omega
  have t21 : (op == 21) = false := by simp; omega
  have HSg := Lib.hid (show fval signT op = .agg #[.string (str (signOf op))] by
    rcases ho with ⟨h1, h2⟩
    have : op = 6 ∨ op = 7 ∨ op = 8 ∨ op = 9 ∨ op = 10 ∨ op = 11 ∨ op = 12 ∨ op = 13 ∨ op = 14 ∨ op = 15 ∨ op = 16 ∨ op = 17 ∨ op = 18 ∨ op = 19 ∨ op = 20 := by omega
    rcases this with rfl | rfl | rfl | rfl | rfl | rfl | rfl | rfl | rfl | rfl | rfl | rfl | rfl | rfl | rfl <;> rfl)
  have hzv : ∀ w, (zeroValue 115).run Tryd.prog w = .ok (.agg #[.string ⟨#[]⟩]) w := fun _ => by kernel_rfl
  clear ih hx2 hy2 hl
  subst hk
  go_enter Tryd.func38, Tryd.ntmps38
  go_wp2_with fail
  obtain ⟨w1, hw1⟩ : ∃ w1, w.alloc (.cells #[.map (some m)] 58) = w1 := ⟨_, rfl⟩
  rw [hw1] at HR1 HX1 HF1 hbw1 ⊢
  clear hw1 h0 h1 h2 h3
  obtain ⟨z0, z1, z2, z3⟩ := HX1.out.S
  go_region_held3 (fun W => W.cell? ⟨w.heap.size, 0, none⟩ = some (.map (some m)) ∧ W.cell? ⟨b, o, none⟩ = some (.int .i64 op) ∧ W.cell? ⟨b, o + 2, none⟩ = some (.string (str nm)) ∧ W.cell? ⟨b, o + 3, none⟩ = some (.slice (some ⟨b2, o2, none⟩) 2 c))
    (first | go_keep | assumption)
    (first
      | (refine step_byte (B := B) (bs := bs) (c := 40) (w := w1.drew) rfl (.tmp 76) (.tmp 77) rfl (by rfl) (HR1.out.later (Below.refl _ _).drew) hbw1 HL1.out (by rfl) ?_
         intro v3a w3a hRa hFa
         have HF3a := Lib.hid (HF1.out.drew.trans hFa)
         have HX3a := Lib.hid ((HX1.out.later hbB ((Fr.refl _ _).drew)).later hbB hFa)
         have hSa := HX3a.out.S)
      | (go_at_call 38
         refine (HIX.out _ _ _ (HXx.out _ HF3a.out) (HE.out.later HF3a.out.1) hRa HL2.out).mono ?_
         rintro e w3 ⟨⟨v3, rfl, hRb⟩, hFb⟩
         have hSb := (HX3a.out.later hbB hFb).S))
  have HR3 := Lib.hid hRb
  have HF3 := Lib.hid (HF3a.out.trans hFb)
  have HX3 := Lib.hid (HX3a.out.later hbB hFb)
  have hbw3 := Nat.le_trans hbw HF3.out.1.size
  clear hRb hFb hSb hRa hFa hSa
  obtain ⟨ly2, hly2⟩ : ∃ l, bs ++ [40] ++ x.text = l := ⟨_, rfl⟩
  have HLy2 := Lib.hid hly2
  rw [hly2] at HR3 HL3
  clear hly2
  have hown_ := HR3.out
  unfold BRow at hown_
  go_wp2_with (at_builtin; refine wpList_append_T _ rfl _ _ 64 rfl B 5 i0 Tryd.underlying64 hi hz0 hz1 hz2 _ _ _ rfl (hown_.alloc _) ⟨w3.heap.size, 0, none⟩ 1 1 [.int .u8 32] rfl rfl ?y2a ?y2b ?y2c ?y2d ?y2e ?_)
  case y2a => intro j u hj; match j, hj with
    | 0, hj => simp at hj; subst hj; simp [go_sem, Addr.add]
  case y2b => intro u hu; simp at hu; subst hu; rfl
  case y2c => have := HL3.out; unfold maxLen; omega
  case y2d => have := HL3.out; omega
  case y2e => exact Nat.le_trans hbw3 (by simp)
  intro v5 w5 hown hgrow
  have hap := brow_app (c := 32) HR3.out hbw3 hown hgrow
  have HR5 := Lib.hid hap.1
  have HF5a := Lib.hid hap.2
  clear hown hgrow hap hown_
  rw [← HLy2.out] at HR5
  have HF5 := Lib.hid (HF3.out.trans HF5a.out)
  have HX5 := Lib.hid (HX3.out.later hbB HF5a.out)
  have hbw5 := Nat.le_trans hbw HF5.out.1.size
  clear z0 z1 z2 z3
  obtain ⟨z0, z1, z2, z3⟩ := HX5.out.S
  have hmp := (HE.out.later HF5.out.1).mp
  have hfd := fun w => run_sign_field (str (signOf op)) w
  have hlk : ∀ W : World, W.heap[m]? = some (fmap signT) → (Instr.lookup 56 (.map (some m)) (.int .i64 op) false).run Tryd.prog W = .ok (.agg #[.string (str (signOf op))]) W := fun W h => by rw [run_look1_fmap Tryd.underlying56 Tryd.underlying25 hzv signT h op, HSg.out]
  clear HF5a hzv
  go_wp2_with fail
  go_region_held3 (fun W => W.cell? ⟨w.heap.size, 0, none⟩ = some (.map (some m)) ∧ W.cell? ⟨b, o, none⟩ = some (.int .i64 op) ∧ W.heap[m]? = some (fmap signT))
    (first | ((try dsimp only); exact ⟨by assumption, by assumption, by assumption⟩) | assumption | go_keep)
    (first
    | (refine step_str (B := B) (bs := bs ++ [40] ++ x.text ++ [32]) (s := str (signOf op)) (w := w5.drew) rfl (.tmp 88) (.tmp 96) rfl (by rfl) (HR5.out.later (Below.refl _ _).drew) hbw5 HL4.out (by rfl) ?_
       intro v6 w6 hR6 hF6
       have hX6 := (HX5.out.later hbB ((Fr.refl _ _).drew)).later hbB hF6
       have hS6 : w6.cell? ⟨w.heap.size, 0, none⟩ = some (.map (some m)) ∧ w6.cell? ⟨b, o, none⟩ = some (.int .i64 op) ∧ w6.heap[m]? = some (fmap signT) := ⟨hX6.S.1, hX6.S.2.1, (HE.out.later (HF5.out.drew.trans hF6).1).mp⟩))
  rw [str_data] at hR6
  have HR6 := Lib.hid hR6
  have HF6 := Lib.hid (HF5.out.drew.trans hF6)
  have HX6 := Lib.hid hX6
  have hbw6 := Nat.le_trans hbw HF6.out.1.size
  clear hR6 hF6 hX6 hS6 hlk hmp hfd z0 z1 z2 z3
  obtain ⟨z0, z1, z2, z3⟩ := HX6.out.S
  go_wp2_with fail
  go_region_held3 (fun W => W.cell? ⟨w.heap.size, 0, none⟩ = some (.map (some m)) ∧ W.cell? ⟨b, o, none⟩ = some (.int .i64 op) ∧ W.cell? ⟨b, o + 2, none⟩ = some (.string (str nm)) ∧ W.cell? ⟨b, o + 3, none⟩ = some (.slice (some ⟨b2, o2, none⟩) 2 c))
    (first | go_keep | assumption)
    (first
      | (refine step_byte (B := B) (bs := bs ++ [40] ++ x.text ++ [32] ++ signOf op) (c := 32) (w := w6.drew) rfl (.tmp 99) (.tmp 100) rfl (by rfl) (HR6.out.later (Below.refl _ _).drew) hbw6 HL5.out (by rfl) ?_
         intro v7a w7a hRa hFa
         have HF7a := Lib.hid (HF6.out.drew.trans hFa)
         have HX7a := Lib.hid ((HX6.out.later hbB ((Fr.refl _ _).drew)).later hbB hFa)
         have hSa := HX7a.out.S)
      | (go_at_call 38
         refine (HIY.out _ _ _ (HXy.out _ HF7a.out) (HE.out.later HF7a.out.1) hRa HL6.out).mono ?_
         rintro e w7 ⟨⟨v7, rfl, hRb⟩, hFb⟩
         have hSb := (HX7a.out.later hbB hFb).S))
  have HR7 := Lib.hid hRb
  have HF7 := Lib.hid (HF7a.out.trans hFb)
  have HX7 := Lib.hid (HX7a.out.later hbB hFb)
  have hbw7 := Nat.le_trans hbw HF7.out.1.size
  clear hRb hFb hSb hRa hFa hSa
  obtain ⟨ly3, hly3⟩ : ∃ l, bs ++ [40] ++ x.text ++ [32] ++ signOf op ++ [32] ++ y.text = l := ⟨_, rfl⟩
  have HLy3 := Lib.hid hly3
  rw [hly3] at HR7 HL7
  clear hly3
  have hown_ := HR7.out
  unfold BRow at hown_
  go_wp2_with (at_builtin; refine wpList_append_T _ rfl _ _ 64 rfl B 5 i0 Tryd.underlying64 hi hz0 hz1 hz2 _ _ _ rfl (hown_.alloc _) ⟨w7.heap.size, 0, none⟩ 1 1 [.int .u8 41] rfl rfl ?y3a ?y3b ?y3c ?y3d ?y3e ?_)
  case y3a => intro j u hj; match j, hj with
    | 0, hj => simp at hj; subst hj; simp [go_sem, Addr.add]
  case y3b => intro u hu; simp at hu; subst hu; rfl
  case y3c => have := HL7.out; unfold maxLen; omega
  case y3d => have := HL7.out; omega
  case y3e => exact Nat.le_trans hbw7 (by simp)
  intro v9 w9 hown hgrow
  have hap := brow_app (c := 41) HR7.out hbw7 hown hgrow
  have HR9 := Lib.hid hap.1
  have HF9 := Lib.hid hap.2
  clear hown hgrow hap hown_
  rw [← HLy3.out] at HR9
  go_wp2_with fail
  go_ret
  exact ⟨⟨v9, rfl, by have h := HR9.out; simpa using h⟩, HF7.out.trans HF9.out⟩

end Go.Proofs.YtkjhofnkgcjcoaaDoor
