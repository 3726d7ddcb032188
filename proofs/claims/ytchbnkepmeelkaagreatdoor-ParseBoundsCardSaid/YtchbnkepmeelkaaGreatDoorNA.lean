/- N0, N1 as one. -/
import Derived.Test.YtchbnkepmeelkaaGreatDoorWW
import Derived.Test.YtchbnkepmeelkaaGreatDoorQA
/- What the chapter's rows are read as. -/
namespace Go.Proofs.YtchbnkepmeelkaaGreatDoor
open Go.RowKit

theorem num_any (a : Int) (w : World) : Calls Tryz.prog 27 #[.int .i64 a] w fun z w' => z = .returned (.int .i64 a) ∧ w' = w := by
  go_enter Tryz.func27, Tryz.ntmps27
  go_wp2
  go_ret
  exact ⟨rfl, rfl⟩
set_option maxHeartbeats 1600000 in
theorem fault_yes (a b c : Int) (w : World) : Calls Tryz.prog 23 #[.agg #[.int .i64 a, .int .i64 b, .int .i64 c], .int .i64 a, .int .i64 b, .int .i64 c] w fun z w' => z = .returned (.bool true) ∧ Below w.heap.size w w' := by
  have HN := Lib.hid (fun a w => num_any a w)
  have HB := Lib.hid (show Below w.heap.size w (w.alloc (.cells #[.int .i64 a, .int .i64 b, .int .i64 c] 29)) from (Below.refl _ _).alloc (Nat.le_refl _) _)
  go_enter Tryz.func23, Tryz.ntmps23
  go_wp2_with fail
  refine (HN.out _ _).mono ?_
  rintro z w1 ⟨rfl, rfl⟩
  go_wp2_with fail
  go_ret
  exact ⟨rfl, HB.out⟩
/-- an expression is read: its operation, name and so on, and no fault -/
theorem ex_row (l : List UInt8) (x : Ex) (f : Array Value) (hx : resE (readP onlyExprP l) = x) (hf : faultR (readP onlyExprP l) = f) (hl : l.length ≤ 1000) (w : World) (hG : Lx.Glob w) :
    Calls Tryz.prog 15 #[.string ⟨l.toArray⟩] w fun z w' => ∃ q c, z = .returned (.tuple #[x.val q c, .agg f]) ∧ x.Ok w' w'.heap.size q ∧ Below w.heap.size w w' := by
  refine (face_ex ⟨l.toArray⟩ w (by rw [size_len]; show l.length ≤ _; omega) hG).mono ?_
  rintro z w' ⟨q, c, rfl, h, hB⟩
  have e : (⟨l.toArray⟩ : ByteArray).data.toList = l := rfl
  rw [e, hx] at h
  exact ⟨q, c, by rw [e, hx, hf], h w' (Agr.refl (Nat.le_refl _)), hB⟩
theorem sts_row (l : List UInt8) (x : Sts) (f : Array Value) (hx : resS (readP onlyStmtsP l) = x) (hf : faultR (readP onlyStmtsP l) = f) (hl : l.length ≤ 1000) (w : World) (hG : Lx.Glob w) :
    Calls Tryz.prog 18 #[.string ⟨l.toArray⟩] w fun z w' => ∃ q c, z = .returned (.tuple #[.slice q x.len c, .agg f]) ∧ x.In w' w'.heap.size q ∧ Below w.heap.size w w' := by
  refine (face_sts ⟨l.toArray⟩ w (by rw [size_len]; show l.length ≤ _; omega) hG).mono ?_
  rintro z w' ⟨q, c, rfl, h, hB⟩
  have e : (⟨l.toArray⟩ : ByteArray).data.toList = l := rfl
  rw [e, hx] at h
  exact ⟨q, c, by rw [e, hx, hf], h w' (Agr.refl (Nat.le_refl _)), hB⟩
theorem prg_row (l : List UInt8) (x : Prg) (f : Array Value) (hx : resP (readP programP l) = x) (hf : faultR (readP programP l) = f) (hl : l.length ≤ 1000) (w : World) (hG : Lx.Glob w) :
    Calls Tryz.prog 11 #[.string ⟨l.toArray⟩] w fun z w' => ∃ q q' c c', z = .returned (.tuple #[x.val q q' c c', .agg f]) ∧ x.Ok w' w'.heap.size q q' ∧ Below w.heap.size w w' := by
  refine (face_prg ⟨l.toArray⟩ w (by rw [size_len]; show l.length ≤ _; omega) hG).mono ?_
  rintro z w' ⟨q, q', c, c', rfl, h, hB⟩
  have e : (⟨l.toArray⟩ : ByteArray).data.toList = l := rfl
  rw [e, hx] at h
  exact ⟨q, q', c, c', by rw [e, hx, hf], h w' (Agr.refl (Nat.le_refl _)), hB⟩
def F0 : Array Value := #[.int .i64 0, .int .i64 0, .int .i64 0]
def FT (a b c : Int) : Array Value := #[.int .i64 a, .int .i64 b, .int .i64 c]
def X1 : Ex := .mk 6 0 [] (.cons (.mk 2 0 [120] .nil) (.cons (.mk 1 1 [] .nil) .nil))
set_option maxRecDepth 100000 in
theorem r1 : resE (readP onlyExprP [40, 120, 32, 43, 32, 49, 41]) = X1 ∧ faultR (readP onlyExprP [40, 120, 32, 43, 32, 49, 41]) = F0 := ⟨by kernel_rfl, by kernel_rfl⟩
set_option maxRecDepth 100000 in
theorem r2 : resE (readP onlyExprP [120, 32, 43, 32, 49]) = Z0 ∧ faultR (readP onlyExprP [120, 32, 43, 32, 49]) = FT 15 1 3 := ⟨by kernel_rfl, by kernel_rfl⟩
set_option maxRecDepth 100000 in
theorem r3 : resE (readP onlyExprP [102, 40, 49, 41]) = Z0 ∧ faultR (readP onlyExprP [102, 40, 49, 41]) = FT 15 1 2 := ⟨by kernel_rfl, by kernel_rfl⟩
def B1 : St := .mk 6 [102] [[97], [98]] Z0 Z0 (.cons (.mk 1 1 [] .nil) (.cons (.mk 2 0 [120] .nil) .nil)) 0 0 .nil .nil
set_option maxRecDepth 100000 in
theorem r4 : resS (readP onlyStmtsP [97, 44, 32, 98, 32, 61, 32, 102, 40, 49, 44, 32, 120, 41, 59]) = .cons B1 .nil ∧ faultR (readP onlyStmtsP [97, 44, 32, 98, 32, 61, 32, 102, 40, 49, 44, 32, 120, 41, 59]) = F0 := ⟨by kernel_rfl, by kernel_rfl⟩
def B2 : St := .mk 2 [114] [] (.mk 4 0 [] (.cons (.mk 2 0 [97] .nil) .nil)) (.mk 1 0 [] .nil) .nil 0 0 .nil .nil
set_option maxRecDepth 100000 in
theorem r5 : resS (readP onlyStmtsP [114, 91, 48, 93, 32, 61, 32, 126, 97, 59]) = .cons B2 .nil ∧ faultR (readP onlyStmtsP [114, 91, 48, 93, 32, 61, 32, 126, 97, 59]) = F0 := ⟨by kernel_rfl, by kernel_rfl⟩
def B3 : St := .mk 3 [] [] (.mk 2 0 [120] .nil) Z0 .nil 0 0 .nil .nil
set_option maxRecDepth 100000 in
theorem r6 : resS (readP onlyStmtsP [105, 102, 32, 120, 32, 123, 32, 125]) = .cons B3 .nil ∧ faultR (readP onlyStmtsP [105, 102, 32, 120, 32, 123, 32, 125]) = F0 := ⟨by kernel_rfl, by kernel_rfl⟩
set_option maxRecDepth 100000 in
theorem r7 : resP (readP programP [102, 110, 32, 102, 40, 41, 32, 123]) = ⟨[], []⟩ ∧ faultR (readP programP [102, 110, 32, 102, 40, 41, 32, 123]) = FT 15 1 9 := ⟨by kernel_rfl, by kernel_rfl⟩
set_option maxRecDepth 100000 in
theorem r8 : resP (readP programP []) = ⟨[], []⟩ ∧ faultR (readP programP []) = F0 := ⟨by kernel_rfl, by kernel_rfl⟩
set_option maxRecDepth 100000 in
theorem r9 : resE (readP onlyExprP (List.replicate 65 126 ++ [120])) = Z0 ∧ faultR (readP onlyExprP (List.replicate 65 126 ++ [120])) = FT 12 1 65 := ⟨by kernel_rfl, by kernel_rfl⟩
end Go.Proofs.YtchbnkepmeelkaaGreatDoor
/- The chapter's rows: the law's last call. -/
namespace Go.Proofs.YtchbnkepmeelkaaGreatDoor
open Go.RowKit

theorem eq_fault0 (w : World) : (binOp .eql 29 (.agg #[.int .i64 0, .int .i64 0, .int .i64 0]) (.agg #[.int .i64 0, .int .i64 0, .int .i64 0])).run Tryz.prog w = .ok (.bool true) w := by kernel_rfl
theorem cells_later {w w' : World} {b o : Nat} {cs : Array Value} (h : ∀ j v, cs[j]? = some v → w.cell? ⟨b, o + j, none⟩ = some v) (hb : b < w.heap.size) (hB : Below w.heap.size w w') : ∀ j v, cs[j]? = some v → w'.cell? ⟨b, o + j, none⟩ = some v := fun j v hv => (hB.cell (p := ⟨b, o + j, none⟩) hb).trans (h j v hv)
theorem one_open {w : World} {N : Nat} {x : St} {q : Option Addr} (h : (Sts.cons x .nil).In w N q) : ∃ b o s, q = some ⟨b, o, none⟩ ∧ b < N ∧ ∀ j v, (x.cells s)[j]? = some v → w.cell? ⟨b, o + j, none⟩ = some v := by
  rcases h.2 with h0 | ⟨b, o, rfl, hb, ha⟩
  · cases h0
  · obtain ⟨s, hc, _⟩ := ha.1.open
    exact ⟨b, o, s, rfl, hb, hc⟩
theorem cat_run (A B C : ByteArray) (h : A ++ B = C) (hz : A.size + B.size ≤ 1000) (w : World) : (Op.stringOp .add A B).run Tryz.prog w = .ok (.string C) w := by
  simp [Op.stringOp, h]
  omega
theorem rep_snoc (k : Nat) (hk : k ≤ 65) (w : World) : (Op.stringOp .add (str (List.replicate k 126)) ⟨#[126]⟩).run Tryz.prog w = .ok (.string (str (List.replicate (k + 1) 126))) w :=
  cat_run _ _ _ (bytes_ext (by rw [ByteArray.data_append, Array.toList_append, str_data, str_data, List.replicate_succ'])) (by rw [size_str, List.length_replicate]; show k + 1 ≤ 1000; omega) w
def tildes : List UInt8 := List.replicate 65 126 ++ [120]
theorem rep_end (w : World) : (Op.stringOp .add (str (List.replicate 65 126)) ⟨#[120]⟩).run Tryz.prog w = .ok (.string ⟨tildes.toArray⟩) w :=
  cat_run _ _ _ (bytes_ext (by rw [ByteArray.data_append, Array.toList_append, str_data]; rfl)) (by rw [size_str, List.length_replicate]; show 65 + 1 ≤ 1000; omega) w
set_option maxRecDepth 100000 in
set_option maxHeartbeats 6400000 in
theorem known_any (w : World) (hG : Lx.Glob w) : Calls Tryz.prog 10 #[] w fun z w' => z = .returned (.bool true) ∧ Below w.heap.size w w' := by
  have C1 := Lib.hid (fun (w : World) (hG : Lx.Glob w) => ex_row [40, 120, 32, 43, 32, 49, 41] X1 #[.int .i64 0, .int .i64 0, .int .i64 0] r1.1 r1.2 (by decide) w hG)
  have C2 := Lib.hid (fun (w : World) (hG : Lx.Glob w) => ex_row [120, 32, 43, 32, 49] Z0 #[.int .i64 15, .int .i64 1, .int .i64 3] r2.1 r2.2 (by decide) w hG)
  have C3 := Lib.hid (fun (w : World) (hG : Lx.Glob w) => ex_row [102, 40, 49, 41] Z0 #[.int .i64 15, .int .i64 1, .int .i64 2] r3.1 r3.2 (by decide) w hG)
  have C4 := Lib.hid (fun (w : World) (hG : Lx.Glob w) => sts_row [97, 44, 32, 98, 32, 61, 32, 102, 40, 49, 44, 32, 120, 41, 59] (.cons B1 .nil) #[.int .i64 0, .int .i64 0, .int .i64 0] r4.1 r4.2 (by decide) w hG)
  have C5 := Lib.hid (fun (w : World) (hG : Lx.Glob w) => sts_row [114, 91, 48, 93, 32, 61, 32, 126, 97, 59] (.cons B2 .nil) #[.int .i64 0, .int .i64 0, .int .i64 0] r5.1 r5.2 (by decide) w hG)
  have C6 := Lib.hid (fun (w : World) (hG : Lx.Glob w) => sts_row [105, 102, 32, 120, 32, 123, 32, 125] (.cons B3 .nil) #[.int .i64 0, .int .i64 0, .int .i64 0] r6.1 r6.2 (by decide) w hG)
  have C7 := Lib.hid (fun (w : World) (hG : Lx.Glob w) => prg_row [102, 110, 32, 102, 40, 41, 32, 123] ⟨[], []⟩ #[.int .i64 15, .int .i64 1, .int .i64 9] r7.1 r7.2 (by decide) w hG)
  have C8 := Lib.hid (fun (w : World) (hG : Lx.Glob w) => prg_row [] ⟨[], []⟩ #[.int .i64 0, .int .i64 0, .int .i64 0] r8.1 r8.2 (by decide) w hG)
  have C9 := Lib.hid (fun (w : World) (hG : Lx.Glob w) => ex_row tildes Z0 #[.int .i64 12, .int .i64 1, .int .i64 65] r9.1 r9.2 (by decide) w hG)
  have HG := Lib.hid hG
  have HFa := Lib.hid (fun (a b c : Int) (w : World) => fault_yes a b c w)
  have HB := Lib.hid (Below.refl w.heap.size w)
  have q0 := eq_fault0
  clear hG
  go_enter Tryz.func10, Tryz.ntmps10
  go_wp2_with fail
  refine (C1.out w (HG.out.later HG.out.2.2.2 HB.out)).mono ?_
  rintro z w1 ⟨q1, c1, hz, hok, hb⟩
  replace HB := Lib.hid (HB.out.trans (hb.mono HB.out.size))
  have EX := Lib.hid (show X1.Ok w1 w1.heap.size q1 from hok)
  obtain rfl : z = .returned (.tuple #[.agg #[.int .i64 6, .int .u64 0, .string ⟨#[]⟩, .slice q1 2 c1], .agg #[.int .i64 0, .int .i64 0, .int .i64 0]]) := hz
  clear hok hb
  obtain ⟨A2, hA2⟩ : ∃ A, (w1.alloc (.cells #[.int .i64 6, .int .u64 0, .string ⟨#[]⟩, .slice q1 2 c1] 39)).alloc (.cells #[.int .i64 0, .int .i64 0, .int .i64 0] 29) = A := ⟨_, rfl⟩
  have hBA : Below w1.heap.size w1 A2 := by rw [← hA2]; exact (((Below.refl w1.heap.size w1).alloc (Nat.le_refl _) _).alloc (by simp) _)
  replace EX := Lib.hid (EX.out.later hBA hBA.size)
  replace HB := Lib.hid (HB.out.trans (hBA.mono HB.out.size))
  have Kt1 := Lib.hid (show A2.heap[w1.heap.size]? = some (.cells #[.int .i64 6, .int .u64 0, .string ⟨#[]⟩, .slice q1 2 c1] 39 (0, 0)) from by rw [← hA2, Below.heap_alloc _ _ _ (by simp)]; exact heap_alloc_new w1 _)
  have Kt2 := Lib.hid (show A2.heap[w1.heap.size + 1]? = some (.cells #[.int .i64 0, .int .i64 0, .int .i64 0] 29 (0, 0)) from by rw [← hA2]; have := heap_alloc_new (w1.alloc (.cells #[.int .i64 6, .int .u64 0, .string ⟨#[]⟩, .slice q1 2 c1] 39)) (.cells #[.int .i64 0, .int .i64 0, .int .i64 0] 29); simpa using this)
  have HA2 := Lib.hid hA2
  clear hBA hA2
  go_wp2_with fail
  try rw [HA2.out]
  clear HA2
  refine (C2.out A2 (HG.out.later HG.out.2.2.2 HB.out)).mono ?_
  rintro z w3 ⟨q2, c2, hz, hok, hb⟩
  replace Kt1 := Lib.hid ((hb.block _ (Array.getElem?_eq_some_iff.1 Kt1.out).1).trans Kt1.out)
  replace Kt2 := Lib.hid ((hb.block _ (Array.getElem?_eq_some_iff.1 Kt2.out).1).trans Kt2.out)
  replace EX := Lib.hid (EX.out.later hb hb.size)
  replace HB := Lib.hid (HB.out.trans (hb.mono HB.out.size))
  obtain rfl : z = .returned (.tuple #[.agg #[.int .i64 0, .int .u64 0, .string ⟨#[]⟩, .slice q2 0 c2], .agg #[.int .i64 15, .int .i64 1, .int .i64 3]]) := hz
  clear hok hb
  obtain ⟨A4, hA4⟩ : ∃ A, (w3.alloc (.cells #[.int .i64 0, .int .u64 0, .string ⟨#[]⟩, .slice q2 0 c2] 39)).alloc (.cells #[.int .i64 15, .int .i64 1, .int .i64 3] 29) = A := ⟨_, rfl⟩
  have hBA : Below w3.heap.size w3 A4 := by rw [← hA4]; exact (((Below.refl w3.heap.size w3).alloc (Nat.le_refl _) _).alloc (by simp) _)
  replace Kt1 := Lib.hid ((hBA.block _ (Array.getElem?_eq_some_iff.1 Kt1.out).1).trans Kt1.out)
  replace Kt2 := Lib.hid ((hBA.block _ (Array.getElem?_eq_some_iff.1 Kt2.out).1).trans Kt2.out)
  replace EX := Lib.hid (EX.out.later hBA hBA.size)
  replace HB := Lib.hid (HB.out.trans (hBA.mono HB.out.size))
  have Kt3 := Lib.hid (show A4.heap[w3.heap.size]? = some (.cells #[.int .i64 0, .int .u64 0, .string ⟨#[]⟩, .slice q2 0 c2] 39 (0, 0)) from by rw [← hA4, Below.heap_alloc _ _ _ (by simp)]; exact heap_alloc_new w3 _)
  have Kt4 := Lib.hid (show A4.heap[w3.heap.size + 1]? = some (.cells #[.int .i64 15, .int .i64 1, .int .i64 3] 29 (0, 0)) from by rw [← hA4]; have := heap_alloc_new (w3.alloc (.cells #[.int .i64 0, .int .u64 0, .string ⟨#[]⟩, .slice q2 0 c2] 39)) (.cells #[.int .i64 15, .int .i64 1, .int .i64 3] 29); simpa using this)
  have HA4 := Lib.hid hA4
  clear hBA hA4
  go_wp2_with fail
  try rw [HA4.out]
  clear HA4
  refine (C3.out A4 (HG.out.later HG.out.2.2.2 HB.out)).mono ?_
  rintro z w5 ⟨q3, c3, hz, hok, hb⟩
  replace Kt1 := Lib.hid ((hb.block _ (Array.getElem?_eq_some_iff.1 Kt1.out).1).trans Kt1.out)
  replace Kt2 := Lib.hid ((hb.block _ (Array.getElem?_eq_some_iff.1 Kt2.out).1).trans Kt2.out)
  replace Kt3 := Lib.hid ((hb.block _ (Array.getElem?_eq_some_iff.1 Kt3.out).1).trans Kt3.out)
  replace Kt4 := Lib.hid ((hb.block _ (Array.getElem?_eq_some_iff.1 Kt4.out).1).trans Kt4.out)
  replace EX := Lib.hid (EX.out.later hb hb.size)
  replace HB := Lib.hid (HB.out.trans (hb.mono HB.out.size))
  obtain rfl : z = .returned (.tuple #[.agg #[.int .i64 0, .int .u64 0, .string ⟨#[]⟩, .slice q3 0 c3], .agg #[.int .i64 15, .int .i64 1, .int .i64 2]]) := hz
  clear hok hb
  obtain ⟨A6, hA6⟩ : ∃ A, (w5.alloc (.cells #[.int .i64 0, .int .u64 0, .string ⟨#[]⟩, .slice q3 0 c3] 39)).alloc (.cells #[.int .i64 15, .int .i64 1, .int .i64 2] 29) = A := ⟨_, rfl⟩
  have hBA : Below w5.heap.size w5 A6 := by rw [← hA6]; exact (((Below.refl w5.heap.size w5).alloc (Nat.le_refl _) _).alloc (by simp) _)
  replace Kt1 := Lib.hid ((hBA.block _ (Array.getElem?_eq_some_iff.1 Kt1.out).1).trans Kt1.out)
  replace Kt2 := Lib.hid ((hBA.block _ (Array.getElem?_eq_some_iff.1 Kt2.out).1).trans Kt2.out)
  replace Kt3 := Lib.hid ((hBA.block _ (Array.getElem?_eq_some_iff.1 Kt3.out).1).trans Kt3.out)
  replace Kt4 := Lib.hid ((hBA.block _ (Array.getElem?_eq_some_iff.1 Kt4.out).1).trans Kt4.out)
  replace EX := Lib.hid (EX.out.later hBA hBA.size)
  replace HB := Lib.hid (HB.out.trans (hBA.mono HB.out.size))
  have Kt5 := Lib.hid (show A6.heap[w5.heap.size]? = some (.cells #[.int .i64 0, .int .u64 0, .string ⟨#[]⟩, .slice q3 0 c3] 39 (0, 0)) from by rw [← hA6, Below.heap_alloc _ _ _ (by simp)]; exact heap_alloc_new w5 _)
  have Kt6 := Lib.hid (show A6.heap[w5.heap.size + 1]? = some (.cells #[.int .i64 15, .int .i64 1, .int .i64 2] 29 (0, 0)) from by rw [← hA6]; have := heap_alloc_new (w5.alloc (.cells #[.int .i64 0, .int .u64 0, .string ⟨#[]⟩, .slice q3 0 c3] 39)) (.cells #[.int .i64 15, .int .i64 1, .int .i64 2] 29); simpa using this)
  have HA6 := Lib.hid hA6
  clear hBA hA6
  go_wp2_with fail
  try rw [HA6.out]
  clear HA6
  refine (C4.out A6 (HG.out.later HG.out.2.2.2 HB.out)).mono ?_
  rintro z w7 ⟨q4, c4, hz, hin, hb⟩
  replace Kt1 := Lib.hid ((hb.block _ (Array.getElem?_eq_some_iff.1 Kt1.out).1).trans Kt1.out)
  replace Kt2 := Lib.hid ((hb.block _ (Array.getElem?_eq_some_iff.1 Kt2.out).1).trans Kt2.out)
  replace Kt3 := Lib.hid ((hb.block _ (Array.getElem?_eq_some_iff.1 Kt3.out).1).trans Kt3.out)
  replace Kt4 := Lib.hid ((hb.block _ (Array.getElem?_eq_some_iff.1 Kt4.out).1).trans Kt4.out)
  replace Kt5 := Lib.hid ((hb.block _ (Array.getElem?_eq_some_iff.1 Kt5.out).1).trans Kt5.out)
  replace Kt6 := Lib.hid ((hb.block _ (Array.getElem?_eq_some_iff.1 Kt6.out).1).trans Kt6.out)
  replace EX := Lib.hid (EX.out.later hb hb.size)
  replace HB := Lib.hid (HB.out.trans (hb.mono HB.out.size))
  obtain rfl : z = .returned (.tuple #[.slice q4 1 c4, .agg #[.int .i64 0, .int .i64 0, .int .i64 0]]) := hz
  obtain ⟨b4, o4, s4, rfl, hbl, hcs⟩ := one_open hin
  have S4 := Lib.hid (And.intro hcs hbl)
  clear hin hb hcs hbl
  obtain ⟨A8, hA8⟩ : ∃ A, w7.alloc (.cells #[.int .i64 0, .int .i64 0, .int .i64 0] 29) = A := ⟨_, rfl⟩
  have hBA : Below w7.heap.size w7 A8 := by rw [← hA8]; exact ((Below.refl w7.heap.size w7).alloc (Nat.le_refl _) _)
  replace Kt1 := Lib.hid ((hBA.block _ (Array.getElem?_eq_some_iff.1 Kt1.out).1).trans Kt1.out)
  replace Kt2 := Lib.hid ((hBA.block _ (Array.getElem?_eq_some_iff.1 Kt2.out).1).trans Kt2.out)
  replace Kt3 := Lib.hid ((hBA.block _ (Array.getElem?_eq_some_iff.1 Kt3.out).1).trans Kt3.out)
  replace Kt4 := Lib.hid ((hBA.block _ (Array.getElem?_eq_some_iff.1 Kt4.out).1).trans Kt4.out)
  replace Kt5 := Lib.hid ((hBA.block _ (Array.getElem?_eq_some_iff.1 Kt5.out).1).trans Kt5.out)
  replace Kt6 := Lib.hid ((hBA.block _ (Array.getElem?_eq_some_iff.1 Kt6.out).1).trans Kt6.out)
  replace S4 := Lib.hid (And.intro (cells_later S4.out.1 S4.out.2 hBA) (Nat.lt_of_lt_of_le S4.out.2 hBA.size))
  replace EX := Lib.hid (EX.out.later hBA hBA.size)
  replace HB := Lib.hid (HB.out.trans (hBA.mono HB.out.size))
  have Kt8 := Lib.hid (show A8.heap[w7.heap.size]? = some (.cells #[.int .i64 0, .int .i64 0, .int .i64 0] 29 (0, 0)) from by rw [← hA8]; exact heap_alloc_new w7 _)
  have HA8 := Lib.hid hA8
  clear hBA hA8
  go_wp2_with fail
  try rw [HA8.out]
  clear HA8
  refine (C5.out A8 (HG.out.later HG.out.2.2.2 HB.out)).mono ?_
  rintro z w9 ⟨q5, c5, hz, hin, hb⟩
  replace Kt1 := Lib.hid ((hb.block _ (Array.getElem?_eq_some_iff.1 Kt1.out).1).trans Kt1.out)
  replace Kt2 := Lib.hid ((hb.block _ (Array.getElem?_eq_some_iff.1 Kt2.out).1).trans Kt2.out)
  replace Kt3 := Lib.hid ((hb.block _ (Array.getElem?_eq_some_iff.1 Kt3.out).1).trans Kt3.out)
  replace Kt4 := Lib.hid ((hb.block _ (Array.getElem?_eq_some_iff.1 Kt4.out).1).trans Kt4.out)
  replace Kt5 := Lib.hid ((hb.block _ (Array.getElem?_eq_some_iff.1 Kt5.out).1).trans Kt5.out)
  replace Kt6 := Lib.hid ((hb.block _ (Array.getElem?_eq_some_iff.1 Kt6.out).1).trans Kt6.out)
  replace Kt8 := Lib.hid ((hb.block _ (Array.getElem?_eq_some_iff.1 Kt8.out).1).trans Kt8.out)
  replace S4 := Lib.hid (And.intro (cells_later S4.out.1 S4.out.2 hb) (Nat.lt_of_lt_of_le S4.out.2 hb.size))
  replace EX := Lib.hid (EX.out.later hb hb.size)
  replace HB := Lib.hid (HB.out.trans (hb.mono HB.out.size))
  obtain rfl : z = .returned (.tuple #[.slice q5 1 c5, .agg #[.int .i64 0, .int .i64 0, .int .i64 0]]) := hz
  obtain ⟨b5, o5, s5, rfl, hbl, hcs⟩ := one_open hin
  have S5 := Lib.hid (And.intro hcs hbl)
  clear hin hb hcs hbl
  obtain ⟨A10, hA10⟩ : ∃ A, w9.alloc (.cells #[.int .i64 0, .int .i64 0, .int .i64 0] 29) = A := ⟨_, rfl⟩
  have hBA : Below w9.heap.size w9 A10 := by rw [← hA10]; exact ((Below.refl w9.heap.size w9).alloc (Nat.le_refl _) _)
  replace Kt1 := Lib.hid ((hBA.block _ (Array.getElem?_eq_some_iff.1 Kt1.out).1).trans Kt1.out)
  replace Kt2 := Lib.hid ((hBA.block _ (Array.getElem?_eq_some_iff.1 Kt2.out).1).trans Kt2.out)
  replace Kt3 := Lib.hid ((hBA.block _ (Array.getElem?_eq_some_iff.1 Kt3.out).1).trans Kt3.out)
  replace Kt4 := Lib.hid ((hBA.block _ (Array.getElem?_eq_some_iff.1 Kt4.out).1).trans Kt4.out)
  replace Kt5 := Lib.hid ((hBA.block _ (Array.getElem?_eq_some_iff.1 Kt5.out).1).trans Kt5.out)
  replace Kt6 := Lib.hid ((hBA.block _ (Array.getElem?_eq_some_iff.1 Kt6.out).1).trans Kt6.out)
  replace Kt8 := Lib.hid ((hBA.block _ (Array.getElem?_eq_some_iff.1 Kt8.out).1).trans Kt8.out)
  replace S4 := Lib.hid (And.intro (cells_later S4.out.1 S4.out.2 hBA) (Nat.lt_of_lt_of_le S4.out.2 hBA.size))
  replace S5 := Lib.hid (And.intro (cells_later S5.out.1 S5.out.2 hBA) (Nat.lt_of_lt_of_le S5.out.2 hBA.size))
  replace EX := Lib.hid (EX.out.later hBA hBA.size)
  replace HB := Lib.hid (HB.out.trans (hBA.mono HB.out.size))
  have Kt10 := Lib.hid (show A10.heap[w9.heap.size]? = some (.cells #[.int .i64 0, .int .i64 0, .int .i64 0] 29 (0, 0)) from by rw [← hA10]; exact heap_alloc_new w9 _)
  have HA10 := Lib.hid hA10
  clear hBA hA10
  go_wp2_with fail
  try rw [HA10.out]
  clear HA10
  refine (C6.out A10 (HG.out.later HG.out.2.2.2 HB.out)).mono ?_
  rintro z w11 ⟨q6, c6, hz, hin, hb⟩
  replace Kt1 := Lib.hid ((hb.block _ (Array.getElem?_eq_some_iff.1 Kt1.out).1).trans Kt1.out)
  replace Kt2 := Lib.hid ((hb.block _ (Array.getElem?_eq_some_iff.1 Kt2.out).1).trans Kt2.out)
  replace Kt3 := Lib.hid ((hb.block _ (Array.getElem?_eq_some_iff.1 Kt3.out).1).trans Kt3.out)
  replace Kt4 := Lib.hid ((hb.block _ (Array.getElem?_eq_some_iff.1 Kt4.out).1).trans Kt4.out)
  replace Kt5 := Lib.hid ((hb.block _ (Array.getElem?_eq_some_iff.1 Kt5.out).1).trans Kt5.out)
  replace Kt6 := Lib.hid ((hb.block _ (Array.getElem?_eq_some_iff.1 Kt6.out).1).trans Kt6.out)
  replace Kt8 := Lib.hid ((hb.block _ (Array.getElem?_eq_some_iff.1 Kt8.out).1).trans Kt8.out)
  replace Kt10 := Lib.hid ((hb.block _ (Array.getElem?_eq_some_iff.1 Kt10.out).1).trans Kt10.out)
  replace S4 := Lib.hid (And.intro (cells_later S4.out.1 S4.out.2 hb) (Nat.lt_of_lt_of_le S4.out.2 hb.size))
  replace S5 := Lib.hid (And.intro (cells_later S5.out.1 S5.out.2 hb) (Nat.lt_of_lt_of_le S5.out.2 hb.size))
  replace EX := Lib.hid (EX.out.later hb hb.size)
  replace HB := Lib.hid (HB.out.trans (hb.mono HB.out.size))
  obtain rfl : z = .returned (.tuple #[.slice q6 1 c6, .agg #[.int .i64 0, .int .i64 0, .int .i64 0]]) := hz
  obtain ⟨b6, o6, s6, rfl, hbl, hcs⟩ := one_open hin
  have S6 := Lib.hid (And.intro hcs hbl)
  clear hin hb hcs hbl
  obtain ⟨A12, hA12⟩ : ∃ A, w11.alloc (.cells #[.int .i64 0, .int .i64 0, .int .i64 0] 29) = A := ⟨_, rfl⟩
  have hBA : Below w11.heap.size w11 A12 := by rw [← hA12]; exact ((Below.refl w11.heap.size w11).alloc (Nat.le_refl _) _)
  replace Kt1 := Lib.hid ((hBA.block _ (Array.getElem?_eq_some_iff.1 Kt1.out).1).trans Kt1.out)
  replace Kt2 := Lib.hid ((hBA.block _ (Array.getElem?_eq_some_iff.1 Kt2.out).1).trans Kt2.out)
  replace Kt3 := Lib.hid ((hBA.block _ (Array.getElem?_eq_some_iff.1 Kt3.out).1).trans Kt3.out)
  replace Kt4 := Lib.hid ((hBA.block _ (Array.getElem?_eq_some_iff.1 Kt4.out).1).trans Kt4.out)
  replace Kt5 := Lib.hid ((hBA.block _ (Array.getElem?_eq_some_iff.1 Kt5.out).1).trans Kt5.out)
  replace Kt6 := Lib.hid ((hBA.block _ (Array.getElem?_eq_some_iff.1 Kt6.out).1).trans Kt6.out)
  replace Kt8 := Lib.hid ((hBA.block _ (Array.getElem?_eq_some_iff.1 Kt8.out).1).trans Kt8.out)
  replace Kt10 := Lib.hid ((hBA.block _ (Array.getElem?_eq_some_iff.1 Kt10.out).1).trans Kt10.out)
  replace S4 := Lib.hid (And.intro (cells_later S4.out.1 S4.out.2 hBA) (Nat.lt_of_lt_of_le S4.out.2 hBA.size))
  replace S5 := Lib.hid (And.intro (cells_later S5.out.1 S5.out.2 hBA) (Nat.lt_of_lt_of_le S5.out.2 hBA.size))
  replace S6 := Lib.hid (And.intro (cells_later S6.out.1 S6.out.2 hBA) (Nat.lt_of_lt_of_le S6.out.2 hBA.size))
  replace EX := Lib.hid (EX.out.later hBA hBA.size)
  replace HB := Lib.hid (HB.out.trans (hBA.mono HB.out.size))
  have Kt12 := Lib.hid (show A12.heap[w11.heap.size]? = some (.cells #[.int .i64 0, .int .i64 0, .int .i64 0] 29 (0, 0)) from by rw [← hA12]; exact heap_alloc_new w11 _)
  have HA12 := Lib.hid hA12
  clear hBA hA12
  go_wp2_with fail
  try rw [HA12.out]
  clear HA12
  refine (C7.out A12 (HG.out.later HG.out.2.2.2 HB.out)).mono ?_
  rintro z w13 ⟨q7, p7, c7, d7, hz, hok, hb⟩
  replace Kt1 := Lib.hid ((hb.block _ (Array.getElem?_eq_some_iff.1 Kt1.out).1).trans Kt1.out)
  replace Kt2 := Lib.hid ((hb.block _ (Array.getElem?_eq_some_iff.1 Kt2.out).1).trans Kt2.out)
  replace Kt3 := Lib.hid ((hb.block _ (Array.getElem?_eq_some_iff.1 Kt3.out).1).trans Kt3.out)
  replace Kt4 := Lib.hid ((hb.block _ (Array.getElem?_eq_some_iff.1 Kt4.out).1).trans Kt4.out)
  replace Kt5 := Lib.hid ((hb.block _ (Array.getElem?_eq_some_iff.1 Kt5.out).1).trans Kt5.out)
  replace Kt6 := Lib.hid ((hb.block _ (Array.getElem?_eq_some_iff.1 Kt6.out).1).trans Kt6.out)
  replace Kt8 := Lib.hid ((hb.block _ (Array.getElem?_eq_some_iff.1 Kt8.out).1).trans Kt8.out)
  replace Kt10 := Lib.hid ((hb.block _ (Array.getElem?_eq_some_iff.1 Kt10.out).1).trans Kt10.out)
  replace Kt12 := Lib.hid ((hb.block _ (Array.getElem?_eq_some_iff.1 Kt12.out).1).trans Kt12.out)
  replace S4 := Lib.hid (And.intro (cells_later S4.out.1 S4.out.2 hb) (Nat.lt_of_lt_of_le S4.out.2 hb.size))
  replace S5 := Lib.hid (And.intro (cells_later S5.out.1 S5.out.2 hb) (Nat.lt_of_lt_of_le S5.out.2 hb.size))
  replace S6 := Lib.hid (And.intro (cells_later S6.out.1 S6.out.2 hb) (Nat.lt_of_lt_of_le S6.out.2 hb.size))
  replace EX := Lib.hid (EX.out.later hb hb.size)
  replace HB := Lib.hid (HB.out.trans (hb.mono HB.out.size))
  obtain rfl : z = .returned (.tuple #[.agg #[.slice q7 0 c7, .slice p7 0 d7], .agg #[.int .i64 15, .int .i64 1, .int .i64 9]]) := hz
  clear hok hb
  obtain ⟨A14, hA14⟩ : ∃ A, (w13.alloc (.cells #[.slice q7 0 c7, .slice p7 0 d7] 26)).alloc (.cells #[.int .i64 15, .int .i64 1, .int .i64 9] 29) = A := ⟨_, rfl⟩
  have hBA : Below w13.heap.size w13 A14 := by rw [← hA14]; exact (((Below.refl w13.heap.size w13).alloc (Nat.le_refl _) _).alloc (by simp) _)
  replace Kt1 := Lib.hid ((hBA.block _ (Array.getElem?_eq_some_iff.1 Kt1.out).1).trans Kt1.out)
  replace Kt2 := Lib.hid ((hBA.block _ (Array.getElem?_eq_some_iff.1 Kt2.out).1).trans Kt2.out)
  replace Kt3 := Lib.hid ((hBA.block _ (Array.getElem?_eq_some_iff.1 Kt3.out).1).trans Kt3.out)
  replace Kt4 := Lib.hid ((hBA.block _ (Array.getElem?_eq_some_iff.1 Kt4.out).1).trans Kt4.out)
  replace Kt5 := Lib.hid ((hBA.block _ (Array.getElem?_eq_some_iff.1 Kt5.out).1).trans Kt5.out)
  replace Kt6 := Lib.hid ((hBA.block _ (Array.getElem?_eq_some_iff.1 Kt6.out).1).trans Kt6.out)
  replace Kt8 := Lib.hid ((hBA.block _ (Array.getElem?_eq_some_iff.1 Kt8.out).1).trans Kt8.out)
  replace Kt10 := Lib.hid ((hBA.block _ (Array.getElem?_eq_some_iff.1 Kt10.out).1).trans Kt10.out)
  replace Kt12 := Lib.hid ((hBA.block _ (Array.getElem?_eq_some_iff.1 Kt12.out).1).trans Kt12.out)
  replace S4 := Lib.hid (And.intro (cells_later S4.out.1 S4.out.2 hBA) (Nat.lt_of_lt_of_le S4.out.2 hBA.size))
  replace S5 := Lib.hid (And.intro (cells_later S5.out.1 S5.out.2 hBA) (Nat.lt_of_lt_of_le S5.out.2 hBA.size))
  replace S6 := Lib.hid (And.intro (cells_later S6.out.1 S6.out.2 hBA) (Nat.lt_of_lt_of_le S6.out.2 hBA.size))
  replace EX := Lib.hid (EX.out.later hBA hBA.size)
  replace HB := Lib.hid (HB.out.trans (hBA.mono HB.out.size))
  have Kt13 := Lib.hid (show A14.heap[w13.heap.size]? = some (.cells #[.slice q7 0 c7, .slice p7 0 d7] 26 (0, 0)) from by rw [← hA14, Below.heap_alloc _ _ _ (by simp)]; exact heap_alloc_new w13 _)
  have Kt14 := Lib.hid (show A14.heap[w13.heap.size + 1]? = some (.cells #[.int .i64 15, .int .i64 1, .int .i64 9] 29 (0, 0)) from by rw [← hA14]; have := heap_alloc_new (w13.alloc (.cells #[.slice q7 0 c7, .slice p7 0 d7] 26)) (.cells #[.int .i64 15, .int .i64 1, .int .i64 9] 29); simpa using this)
  have HA14 := Lib.hid hA14
  clear hBA hA14
  go_wp2_with fail
  try rw [HA14.out]
  clear HA14
  refine (C8.out A14 (HG.out.later HG.out.2.2.2 HB.out)).mono ?_
  rintro z w15 ⟨q8, p8, c8, d8, hz, hok, hb⟩
  replace Kt1 := Lib.hid ((hb.block _ (Array.getElem?_eq_some_iff.1 Kt1.out).1).trans Kt1.out)
  replace Kt2 := Lib.hid ((hb.block _ (Array.getElem?_eq_some_iff.1 Kt2.out).1).trans Kt2.out)
  replace Kt3 := Lib.hid ((hb.block _ (Array.getElem?_eq_some_iff.1 Kt3.out).1).trans Kt3.out)
  replace Kt4 := Lib.hid ((hb.block _ (Array.getElem?_eq_some_iff.1 Kt4.out).1).trans Kt4.out)
  replace Kt5 := Lib.hid ((hb.block _ (Array.getElem?_eq_some_iff.1 Kt5.out).1).trans Kt5.out)
  replace Kt6 := Lib.hid ((hb.block _ (Array.getElem?_eq_some_iff.1 Kt6.out).1).trans Kt6.out)
  replace Kt8 := Lib.hid ((hb.block _ (Array.getElem?_eq_some_iff.1 Kt8.out).1).trans Kt8.out)
  replace Kt10 := Lib.hid ((hb.block _ (Array.getElem?_eq_some_iff.1 Kt10.out).1).trans Kt10.out)
  replace Kt12 := Lib.hid ((hb.block _ (Array.getElem?_eq_some_iff.1 Kt12.out).1).trans Kt12.out)
  replace Kt13 := Lib.hid ((hb.block _ (Array.getElem?_eq_some_iff.1 Kt13.out).1).trans Kt13.out)
  replace Kt14 := Lib.hid ((hb.block _ (Array.getElem?_eq_some_iff.1 Kt14.out).1).trans Kt14.out)
  replace S4 := Lib.hid (And.intro (cells_later S4.out.1 S4.out.2 hb) (Nat.lt_of_lt_of_le S4.out.2 hb.size))
  replace S5 := Lib.hid (And.intro (cells_later S5.out.1 S5.out.2 hb) (Nat.lt_of_lt_of_le S5.out.2 hb.size))
  replace S6 := Lib.hid (And.intro (cells_later S6.out.1 S6.out.2 hb) (Nat.lt_of_lt_of_le S6.out.2 hb.size))
  replace EX := Lib.hid (EX.out.later hb hb.size)
  replace HB := Lib.hid (HB.out.trans (hb.mono HB.out.size))
  obtain rfl : z = .returned (.tuple #[.agg #[.slice q8 0 c8, .slice p8 0 d8], .agg #[.int .i64 0, .int .i64 0, .int .i64 0]]) := hz
  clear hok hb
  obtain ⟨A16, hA16⟩ : ∃ A, (w15.alloc (.cells #[.slice q8 0 c8, .slice p8 0 d8] 26)).alloc (.cells #[.int .i64 0, .int .i64 0, .int .i64 0] 29) = A := ⟨_, rfl⟩
  have hBA : Below w15.heap.size w15 A16 := by rw [← hA16]; exact (((Below.refl w15.heap.size w15).alloc (Nat.le_refl _) _).alloc (by simp) _)
  replace Kt1 := Lib.hid ((hBA.block _ (Array.getElem?_eq_some_iff.1 Kt1.out).1).trans Kt1.out)
  replace Kt2 := Lib.hid ((hBA.block _ (Array.getElem?_eq_some_iff.1 Kt2.out).1).trans Kt2.out)
  replace Kt3 := Lib.hid ((hBA.block _ (Array.getElem?_eq_some_iff.1 Kt3.out).1).trans Kt3.out)
  replace Kt4 := Lib.hid ((hBA.block _ (Array.getElem?_eq_some_iff.1 Kt4.out).1).trans Kt4.out)
  replace Kt5 := Lib.hid ((hBA.block _ (Array.getElem?_eq_some_iff.1 Kt5.out).1).trans Kt5.out)
  replace Kt6 := Lib.hid ((hBA.block _ (Array.getElem?_eq_some_iff.1 Kt6.out).1).trans Kt6.out)
  replace Kt8 := Lib.hid ((hBA.block _ (Array.getElem?_eq_some_iff.1 Kt8.out).1).trans Kt8.out)
  replace Kt10 := Lib.hid ((hBA.block _ (Array.getElem?_eq_some_iff.1 Kt10.out).1).trans Kt10.out)
  replace Kt12 := Lib.hid ((hBA.block _ (Array.getElem?_eq_some_iff.1 Kt12.out).1).trans Kt12.out)
  replace Kt13 := Lib.hid ((hBA.block _ (Array.getElem?_eq_some_iff.1 Kt13.out).1).trans Kt13.out)
  replace Kt14 := Lib.hid ((hBA.block _ (Array.getElem?_eq_some_iff.1 Kt14.out).1).trans Kt14.out)
  replace S4 := Lib.hid (And.intro (cells_later S4.out.1 S4.out.2 hBA) (Nat.lt_of_lt_of_le S4.out.2 hBA.size))
  replace S5 := Lib.hid (And.intro (cells_later S5.out.1 S5.out.2 hBA) (Nat.lt_of_lt_of_le S5.out.2 hBA.size))
  replace S6 := Lib.hid (And.intro (cells_later S6.out.1 S6.out.2 hBA) (Nat.lt_of_lt_of_le S6.out.2 hBA.size))
  replace EX := Lib.hid (EX.out.later hBA hBA.size)
  replace HB := Lib.hid (HB.out.trans (hBA.mono HB.out.size))
  have Kt15 := Lib.hid (show A16.heap[w15.heap.size]? = some (.cells #[.slice q8 0 c8, .slice p8 0 d8] 26 (0, 0)) from by rw [← hA16, Below.heap_alloc _ _ _ (by simp)]; exact heap_alloc_new w15 _)
  have Kt16 := Lib.hid (show A16.heap[w15.heap.size + 1]? = some (.cells #[.int .i64 0, .int .i64 0, .int .i64 0] 29 (0, 0)) from by rw [← hA16]; have := heap_alloc_new (w15.alloc (.cells #[.slice q8 0 c8, .slice p8 0 d8] 26)) (.cells #[.int .i64 0, .int .i64 0, .int .i64 0] 29); simpa using this)
  have HA16 := Lib.hid hA16
  clear hBA hA16
  go_wp2_with fail
  try rw [HA16.out]
  clear HA16
  go_loopw [17, 18] (fun s i wr => ∃ k : Nat, i = .int .i64 k ∧ k ≤ 65 ∧ s = .string (str (List.replicate k 126)) ∧ wr = A16) (fun _ i _ => 65 - (intOf i).toNat)
  case atStart => exact ⟨0, rfl, by omega, rfl, rfl⟩
  case round =>
    obtain ⟨k, rfl, hk, rfl, rfl⟩ := hrel
    by_cases hlt : k < 65
    · have hadd := rep_snoc k hk
      have hlt2 : (k : Int) < 65 := by omega
      go_wp2_with fail
      go_roundw
      case rel => exact ⟨k + 1, by go_num, by omega, rfl, trivial⟩
      case measure => simp [intOf]; omega
    · obtain rfl : k = 65 := by omega
      have hadd := rep_end
      have hlt2 : ¬ ((65 : Nat) : Int) < 65 := by omega
      go_wp2_with fail
      refine (C9.out wr (HG.out.later HG.out.2.2.2 HB.out)).mono ?_
      rintro z w20 ⟨q9, c9, hz, hok, hb⟩
      obtain rfl : z = .returned (.tuple #[.agg #[.int .i64 0, .int .u64 0, .string ⟨#[]⟩, .slice q9 0 c9], .agg #[.int .i64 12, .int .i64 1, .int .i64 65]]) := hz
      replace Kt1 := Lib.hid ((hb.block _ (Array.getElem?_eq_some_iff.1 Kt1.out).1).trans Kt1.out)
      replace Kt2 := Lib.hid ((hb.block _ (Array.getElem?_eq_some_iff.1 Kt2.out).1).trans Kt2.out)
      replace Kt3 := Lib.hid ((hb.block _ (Array.getElem?_eq_some_iff.1 Kt3.out).1).trans Kt3.out)
      replace Kt4 := Lib.hid ((hb.block _ (Array.getElem?_eq_some_iff.1 Kt4.out).1).trans Kt4.out)
      replace Kt5 := Lib.hid ((hb.block _ (Array.getElem?_eq_some_iff.1 Kt5.out).1).trans Kt5.out)
      replace Kt6 := Lib.hid ((hb.block _ (Array.getElem?_eq_some_iff.1 Kt6.out).1).trans Kt6.out)
      replace Kt8 := Lib.hid ((hb.block _ (Array.getElem?_eq_some_iff.1 Kt8.out).1).trans Kt8.out)
      replace Kt10 := Lib.hid ((hb.block _ (Array.getElem?_eq_some_iff.1 Kt10.out).1).trans Kt10.out)
      replace Kt12 := Lib.hid ((hb.block _ (Array.getElem?_eq_some_iff.1 Kt12.out).1).trans Kt12.out)
      replace Kt13 := Lib.hid ((hb.block _ (Array.getElem?_eq_some_iff.1 Kt13.out).1).trans Kt13.out)
      replace Kt14 := Lib.hid ((hb.block _ (Array.getElem?_eq_some_iff.1 Kt14.out).1).trans Kt14.out)
      replace Kt15 := Lib.hid ((hb.block _ (Array.getElem?_eq_some_iff.1 Kt15.out).1).trans Kt15.out)
      replace Kt16 := Lib.hid ((hb.block _ (Array.getElem?_eq_some_iff.1 Kt16.out).1).trans Kt16.out)
      replace S4 := Lib.hid (And.intro (cells_later S4.out.1 S4.out.2 hb) (Nat.lt_of_lt_of_le S4.out.2 hb.size))
      replace S5 := Lib.hid (And.intro (cells_later S5.out.1 S5.out.2 hb) (Nat.lt_of_lt_of_le S5.out.2 hb.size))
      replace S6 := Lib.hid (And.intro (cells_later S6.out.1 S6.out.2 hb) (Nat.lt_of_lt_of_le S6.out.2 hb.size))
      replace EX := Lib.hid (EX.out.later hb hb.size)
      replace HB := Lib.hid (HB.out.trans (hb.mono HB.out.size))
      clear hok hb
      obtain ⟨A17, hA17⟩ : ∃ A, (w20.alloc (.cells #[.int .i64 0, .int .u64 0, .string ⟨#[]⟩, .slice q9 0 c9] 39)).alloc (.cells #[.int .i64 12, .int .i64 1, .int .i64 65] 29) = A := ⟨_, rfl⟩
      have hBA : Below w20.heap.size w20 A17 := by rw [← hA17]; exact (((Below.refl w20.heap.size w20).alloc (Nat.le_refl _) _).alloc (by simp) _)
      replace Kt1 := Lib.hid ((hBA.block _ (Array.getElem?_eq_some_iff.1 Kt1.out).1).trans Kt1.out)
      replace Kt2 := Lib.hid ((hBA.block _ (Array.getElem?_eq_some_iff.1 Kt2.out).1).trans Kt2.out)
      replace Kt3 := Lib.hid ((hBA.block _ (Array.getElem?_eq_some_iff.1 Kt3.out).1).trans Kt3.out)
      replace Kt4 := Lib.hid ((hBA.block _ (Array.getElem?_eq_some_iff.1 Kt4.out).1).trans Kt4.out)
      replace Kt5 := Lib.hid ((hBA.block _ (Array.getElem?_eq_some_iff.1 Kt5.out).1).trans Kt5.out)
      replace Kt6 := Lib.hid ((hBA.block _ (Array.getElem?_eq_some_iff.1 Kt6.out).1).trans Kt6.out)
      replace Kt8 := Lib.hid ((hBA.block _ (Array.getElem?_eq_some_iff.1 Kt8.out).1).trans Kt8.out)
      replace Kt10 := Lib.hid ((hBA.block _ (Array.getElem?_eq_some_iff.1 Kt10.out).1).trans Kt10.out)
      replace Kt12 := Lib.hid ((hBA.block _ (Array.getElem?_eq_some_iff.1 Kt12.out).1).trans Kt12.out)
      replace Kt13 := Lib.hid ((hBA.block _ (Array.getElem?_eq_some_iff.1 Kt13.out).1).trans Kt13.out)
      replace Kt14 := Lib.hid ((hBA.block _ (Array.getElem?_eq_some_iff.1 Kt14.out).1).trans Kt14.out)
      replace Kt15 := Lib.hid ((hBA.block _ (Array.getElem?_eq_some_iff.1 Kt15.out).1).trans Kt15.out)
      replace Kt16 := Lib.hid ((hBA.block _ (Array.getElem?_eq_some_iff.1 Kt16.out).1).trans Kt16.out)
      replace S4 := Lib.hid (And.intro (cells_later S4.out.1 S4.out.2 hBA) (Nat.lt_of_lt_of_le S4.out.2 hBA.size))
      replace S5 := Lib.hid (And.intro (cells_later S5.out.1 S5.out.2 hBA) (Nat.lt_of_lt_of_le S5.out.2 hBA.size))
      replace S6 := Lib.hid (And.intro (cells_later S6.out.1 S6.out.2 hBA) (Nat.lt_of_lt_of_le S6.out.2 hBA.size))
      replace EX := Lib.hid (EX.out.later hBA hBA.size)
      replace HB := Lib.hid (HB.out.trans (hBA.mono HB.out.size))
      have Kt19 := Lib.hid (show A17.heap[w20.heap.size]? = some (.cells #[.int .i64 0, .int .u64 0, .string ⟨#[]⟩, .slice q9 0 c9] 39 (0, 0)) from by rw [← hA17, Below.heap_alloc _ _ _ (by simp)]; exact heap_alloc_new w20 _)
      have Kt20 := Lib.hid (show A17.heap[w20.heap.size + 1]? = some (.cells #[.int .i64 12, .int .i64 1, .int .i64 65] 29 (0, 0)) from by rw [← hA17]; have := heap_alloc_new (w20.alloc (.cells #[.int .i64 0, .int .u64 0, .string ⟨#[]⟩, .slice q9 0 c9] 39)) (.cells #[.int .i64 12, .int .i64 1, .int .i64 65] 29); simpa using this)
      have HA17 := Lib.hid hA17
      clear hBA hA17
      go_upto_region 15 with fail
      try rw [HA17.out]
      clear HA17
      obtain ⟨A18, hA18⟩ : ∃ A, A17.alloc (.cells #[.int .i64 2, .int .u64 0, .string ⟨#[120]⟩, .slice none 0 0] 39) = A := ⟨_, rfl⟩
      have hBA : Below A17.heap.size A17 A18 := by rw [← hA18]; exact ((Below.refl A17.heap.size A17).alloc (Nat.le_refl _) _)
      replace Kt1 := Lib.hid ((hBA.block _ (Array.getElem?_eq_some_iff.1 Kt1.out).1).trans Kt1.out)
      replace Kt2 := Lib.hid ((hBA.block _ (Array.getElem?_eq_some_iff.1 Kt2.out).1).trans Kt2.out)
      replace Kt3 := Lib.hid ((hBA.block _ (Array.getElem?_eq_some_iff.1 Kt3.out).1).trans Kt3.out)
      replace Kt4 := Lib.hid ((hBA.block _ (Array.getElem?_eq_some_iff.1 Kt4.out).1).trans Kt4.out)
      replace Kt5 := Lib.hid ((hBA.block _ (Array.getElem?_eq_some_iff.1 Kt5.out).1).trans Kt5.out)
      replace Kt6 := Lib.hid ((hBA.block _ (Array.getElem?_eq_some_iff.1 Kt6.out).1).trans Kt6.out)
      replace Kt8 := Lib.hid ((hBA.block _ (Array.getElem?_eq_some_iff.1 Kt8.out).1).trans Kt8.out)
      replace Kt10 := Lib.hid ((hBA.block _ (Array.getElem?_eq_some_iff.1 Kt10.out).1).trans Kt10.out)
      replace Kt12 := Lib.hid ((hBA.block _ (Array.getElem?_eq_some_iff.1 Kt12.out).1).trans Kt12.out)
      replace Kt13 := Lib.hid ((hBA.block _ (Array.getElem?_eq_some_iff.1 Kt13.out).1).trans Kt13.out)
      replace Kt14 := Lib.hid ((hBA.block _ (Array.getElem?_eq_some_iff.1 Kt14.out).1).trans Kt14.out)
      replace Kt15 := Lib.hid ((hBA.block _ (Array.getElem?_eq_some_iff.1 Kt15.out).1).trans Kt15.out)
      replace Kt16 := Lib.hid ((hBA.block _ (Array.getElem?_eq_some_iff.1 Kt16.out).1).trans Kt16.out)
      replace Kt19 := Lib.hid ((hBA.block _ (Array.getElem?_eq_some_iff.1 Kt19.out).1).trans Kt19.out)
      replace Kt20 := Lib.hid ((hBA.block _ (Array.getElem?_eq_some_iff.1 Kt20.out).1).trans Kt20.out)
      replace S4 := Lib.hid (And.intro (cells_later S4.out.1 S4.out.2 hBA) (Nat.lt_of_lt_of_le S4.out.2 hBA.size))
      replace S5 := Lib.hid (And.intro (cells_later S5.out.1 S5.out.2 hBA) (Nat.lt_of_lt_of_le S5.out.2 hBA.size))
      replace S6 := Lib.hid (And.intro (cells_later S6.out.1 S6.out.2 hBA) (Nat.lt_of_lt_of_le S6.out.2 hBA.size))
      replace EX := Lib.hid (EX.out.later hBA hBA.size)
      replace HB := Lib.hid (HB.out.trans (hBA.mono HB.out.size))
      have Kt21 := Lib.hid (show A18.heap[A17.heap.size]? = some (.cells #[.int .i64 2, .int .u64 0, .string ⟨#[120]⟩, .slice none 0 0] 39 (0, 0)) from by rw [← hA18]; exact heap_alloc_new A17 _)
      have HA18 := Lib.hid hA18
      clear hBA hA18
      go_upto_region 16 with fail
      try rw [HA18.out]
      clear HA18
      obtain ⟨A19, hA19⟩ : ∃ A, A18.alloc (.cells #[.int .i64 1, .int .u64 1, .string ⟨#[]⟩, .slice none 0 0] 39) = A := ⟨_, rfl⟩
      have hBA : Below A18.heap.size A18 A19 := by rw [← hA19]; exact ((Below.refl A18.heap.size A18).alloc (Nat.le_refl _) _)
      replace Kt1 := Lib.hid ((hBA.block _ (Array.getElem?_eq_some_iff.1 Kt1.out).1).trans Kt1.out)
      replace Kt2 := Lib.hid ((hBA.block _ (Array.getElem?_eq_some_iff.1 Kt2.out).1).trans Kt2.out)
      replace Kt3 := Lib.hid ((hBA.block _ (Array.getElem?_eq_some_iff.1 Kt3.out).1).trans Kt3.out)
      replace Kt4 := Lib.hid ((hBA.block _ (Array.getElem?_eq_some_iff.1 Kt4.out).1).trans Kt4.out)
      replace Kt5 := Lib.hid ((hBA.block _ (Array.getElem?_eq_some_iff.1 Kt5.out).1).trans Kt5.out)
      replace Kt6 := Lib.hid ((hBA.block _ (Array.getElem?_eq_some_iff.1 Kt6.out).1).trans Kt6.out)
      replace Kt8 := Lib.hid ((hBA.block _ (Array.getElem?_eq_some_iff.1 Kt8.out).1).trans Kt8.out)
      replace Kt10 := Lib.hid ((hBA.block _ (Array.getElem?_eq_some_iff.1 Kt10.out).1).trans Kt10.out)
      replace Kt12 := Lib.hid ((hBA.block _ (Array.getElem?_eq_some_iff.1 Kt12.out).1).trans Kt12.out)
      replace Kt13 := Lib.hid ((hBA.block _ (Array.getElem?_eq_some_iff.1 Kt13.out).1).trans Kt13.out)
      replace Kt14 := Lib.hid ((hBA.block _ (Array.getElem?_eq_some_iff.1 Kt14.out).1).trans Kt14.out)
      replace Kt15 := Lib.hid ((hBA.block _ (Array.getElem?_eq_some_iff.1 Kt15.out).1).trans Kt15.out)
      replace Kt16 := Lib.hid ((hBA.block _ (Array.getElem?_eq_some_iff.1 Kt16.out).1).trans Kt16.out)
      replace Kt19 := Lib.hid ((hBA.block _ (Array.getElem?_eq_some_iff.1 Kt19.out).1).trans Kt19.out)
      replace Kt20 := Lib.hid ((hBA.block _ (Array.getElem?_eq_some_iff.1 Kt20.out).1).trans Kt20.out)
      replace Kt21 := Lib.hid ((hBA.block _ (Array.getElem?_eq_some_iff.1 Kt21.out).1).trans Kt21.out)
      replace S4 := Lib.hid (And.intro (cells_later S4.out.1 S4.out.2 hBA) (Nat.lt_of_lt_of_le S4.out.2 hBA.size))
      replace S5 := Lib.hid (And.intro (cells_later S5.out.1 S5.out.2 hBA) (Nat.lt_of_lt_of_le S5.out.2 hBA.size))
      replace S6 := Lib.hid (And.intro (cells_later S6.out.1 S6.out.2 hBA) (Nat.lt_of_lt_of_le S6.out.2 hBA.size))
      replace EX := Lib.hid (EX.out.later hBA hBA.size)
      replace HB := Lib.hid (HB.out.trans (hBA.mono HB.out.size))
      have Kt22 := Lib.hid (show A19.heap[A18.heap.size]? = some (.cells #[.int .i64 1, .int .u64 1, .string ⟨#[]⟩, .slice none 0 0] 39 (0, 0)) from by rw [← hA19]; exact heap_alloc_new A18 _)
      have HA19 := Lib.hid hA19
      clear hBA hA19
      go_upto_region 17 with fail
      try rw [HA19.out]
      clear HA19
      have c4_0 : A19.cell? ⟨b4, o4, none⟩ = some (.int .i64 6) := S4.out.1 0 _ rfl
      have c4_1 : A19.cell? ⟨b4, o4 + 1, none⟩ = some (.string ⟨#[102]⟩) := S4.out.1 1 _ rfl
      have c4_2 : A19.cell? ⟨b4, o4 + 2, none⟩ = some (.slice s4.pn 2 s4.cn) := S4.out.1 2 _ rfl
      have c4_11 : A19.cell? ⟨b4, o4 + 11, none⟩ = some (.slice s4.pg 2 s4.cg) := S4.out.1 11 _ rfl
      have c5_0 : A19.cell? ⟨b5, o5, none⟩ = some (.int .i64 2) := S5.out.1 0 _ rfl
      have c6_0 : A19.cell? ⟨b6, o6, none⟩ = some (.int .i64 3) := S6.out.1 0 _ rfl
      have c6_14 : A19.cell? ⟨b6, o6 + 14, none⟩ = some (.slice s6.pb 0 s6.cb) := S6.out.1 14 _ rfl
      have l4 := S4.out.2
      have l5 := S5.out.2
      have l6 := S6.out.2
      go_upto_region 19 with fail
      obtain ⟨A20, hA20⟩ : ∃ A, A19.alloc (.cells #[.int .i64 0, .int .i64 0, .int .i64 0] 29) = A := ⟨_, rfl⟩
      have hBA : Below A19.heap.size A19 A20 := by rw [← hA20]; exact ((Below.refl A19.heap.size A19).alloc (Nat.le_refl _) _)
      replace Kt1 := Lib.hid ((hBA.block _ (Array.getElem?_eq_some_iff.1 Kt1.out).1).trans Kt1.out)
      replace Kt2 := Lib.hid ((hBA.block _ (Array.getElem?_eq_some_iff.1 Kt2.out).1).trans Kt2.out)
      replace Kt3 := Lib.hid ((hBA.block _ (Array.getElem?_eq_some_iff.1 Kt3.out).1).trans Kt3.out)
      replace Kt4 := Lib.hid ((hBA.block _ (Array.getElem?_eq_some_iff.1 Kt4.out).1).trans Kt4.out)
      replace Kt5 := Lib.hid ((hBA.block _ (Array.getElem?_eq_some_iff.1 Kt5.out).1).trans Kt5.out)
      replace Kt6 := Lib.hid ((hBA.block _ (Array.getElem?_eq_some_iff.1 Kt6.out).1).trans Kt6.out)
      replace Kt8 := Lib.hid ((hBA.block _ (Array.getElem?_eq_some_iff.1 Kt8.out).1).trans Kt8.out)
      replace Kt10 := Lib.hid ((hBA.block _ (Array.getElem?_eq_some_iff.1 Kt10.out).1).trans Kt10.out)
      replace Kt12 := Lib.hid ((hBA.block _ (Array.getElem?_eq_some_iff.1 Kt12.out).1).trans Kt12.out)
      replace Kt13 := Lib.hid ((hBA.block _ (Array.getElem?_eq_some_iff.1 Kt13.out).1).trans Kt13.out)
      replace Kt14 := Lib.hid ((hBA.block _ (Array.getElem?_eq_some_iff.1 Kt14.out).1).trans Kt14.out)
      replace Kt15 := Lib.hid ((hBA.block _ (Array.getElem?_eq_some_iff.1 Kt15.out).1).trans Kt15.out)
      replace Kt16 := Lib.hid ((hBA.block _ (Array.getElem?_eq_some_iff.1 Kt16.out).1).trans Kt16.out)
      replace Kt19 := Lib.hid ((hBA.block _ (Array.getElem?_eq_some_iff.1 Kt19.out).1).trans Kt19.out)
      replace Kt20 := Lib.hid ((hBA.block _ (Array.getElem?_eq_some_iff.1 Kt20.out).1).trans Kt20.out)
      replace Kt21 := Lib.hid ((hBA.block _ (Array.getElem?_eq_some_iff.1 Kt21.out).1).trans Kt21.out)
      replace Kt22 := Lib.hid ((hBA.block _ (Array.getElem?_eq_some_iff.1 Kt22.out).1).trans Kt22.out)
      replace S4 := Lib.hid (And.intro (cells_later S4.out.1 S4.out.2 hBA) (Nat.lt_of_lt_of_le S4.out.2 hBA.size))
      replace S5 := Lib.hid (And.intro (cells_later S5.out.1 S5.out.2 hBA) (Nat.lt_of_lt_of_le S5.out.2 hBA.size))
      replace S6 := Lib.hid (And.intro (cells_later S6.out.1 S6.out.2 hBA) (Nat.lt_of_lt_of_le S6.out.2 hBA.size))
      replace EX := Lib.hid (EX.out.later hBA hBA.size)
      replace HB := Lib.hid (HB.out.trans (hBA.mono HB.out.size))
      have Kt23 := Lib.hid (show A20.heap[A19.heap.size]? = some (.cells #[.int .i64 0, .int .i64 0, .int .i64 0] 29 (0, 0)) from by rw [← hA20]; exact heap_alloc_new A19 _)
      have HA20 := Lib.hid hA20
      clear hBA hA20
      try rw [HA20.out]
      clear HA20 c4_0 c4_1 c4_2 c4_11 c5_0 c6_0 c6_14 l4 l5 l6 S4 S5 S6
      have yt1_0 := cell_blk Kt1.out (j := 0) rfl
      have yt1_1 := cell_blk Kt1.out (j := 1) rfl
      have yt1_2 := cell_blk Kt1.out (j := 2) rfl
      have yt1_3 := cell_blk Kt1.out (j := 3) rfl
      have yt21_0 := cell_blk Kt21.out (j := 0) rfl
      have yt21_1 := cell_blk Kt21.out (j := 1) rfl
      have yt21_2 := cell_blk Kt21.out (j := 2) rfl
      have yt21_3 := cell_blk Kt21.out (j := 3) rfl
      have yt22_0 := cell_blk Kt22.out (j := 0) rfl
      have yt22_1 := cell_blk Kt22.out (j := 1) rfl
      have yt22_2 := cell_blk Kt22.out (j := 2) rfl
      have yt22_3 := cell_blk Kt22.out (j := 3) rfl
      obtain ⟨A21, hA21⟩ : ∃ A, A20.alloc (.cells #[.int .i64 2, .int .u64 0, .string ⟨#[120]⟩, .slice none 0 0, .int .i64 1, .int .u64 1, .string ⟨#[]⟩, .slice none 0 0] 39) = A := ⟨_, rfl⟩
      have hBA : Below A20.heap.size A20 A21 := by rw [← hA21]; exact ((Below.refl A20.heap.size A20).alloc (Nat.le_refl _) _)
      replace Kt1 := Lib.hid ((hBA.block _ (Array.getElem?_eq_some_iff.1 Kt1.out).1).trans Kt1.out)
      replace Kt2 := Lib.hid ((hBA.block _ (Array.getElem?_eq_some_iff.1 Kt2.out).1).trans Kt2.out)
      replace Kt3 := Lib.hid ((hBA.block _ (Array.getElem?_eq_some_iff.1 Kt3.out).1).trans Kt3.out)
      replace Kt4 := Lib.hid ((hBA.block _ (Array.getElem?_eq_some_iff.1 Kt4.out).1).trans Kt4.out)
      replace Kt5 := Lib.hid ((hBA.block _ (Array.getElem?_eq_some_iff.1 Kt5.out).1).trans Kt5.out)
      replace Kt6 := Lib.hid ((hBA.block _ (Array.getElem?_eq_some_iff.1 Kt6.out).1).trans Kt6.out)
      replace Kt8 := Lib.hid ((hBA.block _ (Array.getElem?_eq_some_iff.1 Kt8.out).1).trans Kt8.out)
      replace Kt10 := Lib.hid ((hBA.block _ (Array.getElem?_eq_some_iff.1 Kt10.out).1).trans Kt10.out)
      replace Kt12 := Lib.hid ((hBA.block _ (Array.getElem?_eq_some_iff.1 Kt12.out).1).trans Kt12.out)
      replace Kt13 := Lib.hid ((hBA.block _ (Array.getElem?_eq_some_iff.1 Kt13.out).1).trans Kt13.out)
      replace Kt14 := Lib.hid ((hBA.block _ (Array.getElem?_eq_some_iff.1 Kt14.out).1).trans Kt14.out)
      replace Kt15 := Lib.hid ((hBA.block _ (Array.getElem?_eq_some_iff.1 Kt15.out).1).trans Kt15.out)
      replace Kt16 := Lib.hid ((hBA.block _ (Array.getElem?_eq_some_iff.1 Kt16.out).1).trans Kt16.out)
      replace Kt19 := Lib.hid ((hBA.block _ (Array.getElem?_eq_some_iff.1 Kt19.out).1).trans Kt19.out)
      replace Kt20 := Lib.hid ((hBA.block _ (Array.getElem?_eq_some_iff.1 Kt20.out).1).trans Kt20.out)
      replace Kt21 := Lib.hid ((hBA.block _ (Array.getElem?_eq_some_iff.1 Kt21.out).1).trans Kt21.out)
      replace Kt22 := Lib.hid ((hBA.block _ (Array.getElem?_eq_some_iff.1 Kt22.out).1).trans Kt22.out)
      replace Kt23 := Lib.hid ((hBA.block _ (Array.getElem?_eq_some_iff.1 Kt23.out).1).trans Kt23.out)
      replace EX := Lib.hid (EX.out.later hBA hBA.size)
      replace HB := Lib.hid (HB.out.trans (hBA.mono HB.out.size))
      have Kg := Lib.hid (show A21.heap[A20.heap.size]? = some (.cells #[.int .i64 2, .int .u64 0, .string ⟨#[120]⟩, .slice none 0 0, .int .i64 1, .int .u64 1, .string ⟨#[]⟩, .slice none 0 0] 39 (0, 0)) from by rw [← hA21]; exact heap_alloc_new A20 _)
      have HA21 := Lib.hid hA21
      clear hBA hA21
      go_wp2_with fail
      try rw [HA21.out]
      clear HA21
      have hy : X1.Ok A21 A21.heap.size (some ⟨A20.heap.size, 0, none⟩) := ⟨⟨by simp [X1, Ex.args, Exs.len], .inr ⟨_, 0, rfl, (Array.getElem?_eq_some_iff.1 Kg.out).1, Ex.At.of (x := .mk 2 0 [120] .nil) (cell_blk Kg.out (j := 0) rfl) (cell_blk Kg.out (j := 1) rfl) (cell_blk Kg.out (j := 2) rfl) (cell_blk Kg.out (j := 3) rfl) ⟨Exs.In.nil _ _ _, by decide⟩, Ex.At.of (x := .mk 1 1 [] .nil) (cell_blk Kg.out (j := 4) rfl) (cell_blk Kg.out (j := 5) rfl) (cell_blk Kg.out (j := 6) rfl) (cell_blk Kg.out (j := 7) rfl) ⟨Exs.In.nil _ _ _, by decide⟩, trivial⟩⟩, by decide⟩
      refine (show Calls Tryz.prog 17 #[.agg #[.int .i64 6, .int .u64 0, .string ⟨#[]⟩, .slice q1 2 c1], .agg #[.int .i64 6, .int .u64 0, .string ⟨#[]⟩, .slice (some ⟨A20.heap.size, 0, none⟩) 2 2]] A21 _ from rse_any X1 X1 q1 (some ⟨A20.heap.size, 0, none⟩) c1 2 A21.heap.size A21 EX.out hy (Nat.le_refl _)).mono ?_
      clear hy
      rintro z w22 ⟨hz, hb⟩
      obtain rfl : z = .returned (.bool true) := by rw [hz, ← eqB_true rfl]
      clear yt1_0 yt1_1 yt1_2 yt1_3 yt21_0 yt21_1 yt21_2 yt21_3 yt22_0 yt22_1 yt22_2 yt22_3
      replace Kt1 := Lib.hid ((hb.block _ (Array.getElem?_eq_some_iff.1 Kt1.out).1).trans Kt1.out)
      replace Kt2 := Lib.hid ((hb.block _ (Array.getElem?_eq_some_iff.1 Kt2.out).1).trans Kt2.out)
      replace Kt3 := Lib.hid ((hb.block _ (Array.getElem?_eq_some_iff.1 Kt3.out).1).trans Kt3.out)
      replace Kt4 := Lib.hid ((hb.block _ (Array.getElem?_eq_some_iff.1 Kt4.out).1).trans Kt4.out)
      replace Kt5 := Lib.hid ((hb.block _ (Array.getElem?_eq_some_iff.1 Kt5.out).1).trans Kt5.out)
      replace Kt6 := Lib.hid ((hb.block _ (Array.getElem?_eq_some_iff.1 Kt6.out).1).trans Kt6.out)
      replace Kt8 := Lib.hid ((hb.block _ (Array.getElem?_eq_some_iff.1 Kt8.out).1).trans Kt8.out)
      replace Kt10 := Lib.hid ((hb.block _ (Array.getElem?_eq_some_iff.1 Kt10.out).1).trans Kt10.out)
      replace Kt12 := Lib.hid ((hb.block _ (Array.getElem?_eq_some_iff.1 Kt12.out).1).trans Kt12.out)
      replace Kt13 := Lib.hid ((hb.block _ (Array.getElem?_eq_some_iff.1 Kt13.out).1).trans Kt13.out)
      replace Kt14 := Lib.hid ((hb.block _ (Array.getElem?_eq_some_iff.1 Kt14.out).1).trans Kt14.out)
      replace Kt15 := Lib.hid ((hb.block _ (Array.getElem?_eq_some_iff.1 Kt15.out).1).trans Kt15.out)
      replace Kt16 := Lib.hid ((hb.block _ (Array.getElem?_eq_some_iff.1 Kt16.out).1).trans Kt16.out)
      replace Kt19 := Lib.hid ((hb.block _ (Array.getElem?_eq_some_iff.1 Kt19.out).1).trans Kt19.out)
      replace Kt20 := Lib.hid ((hb.block _ (Array.getElem?_eq_some_iff.1 Kt20.out).1).trans Kt20.out)
      replace Kt21 := Lib.hid ((hb.block _ (Array.getElem?_eq_some_iff.1 Kt21.out).1).trans Kt21.out)
      replace Kt22 := Lib.hid ((hb.block _ (Array.getElem?_eq_some_iff.1 Kt22.out).1).trans Kt22.out)
      replace Kt23 := Lib.hid ((hb.block _ (Array.getElem?_eq_some_iff.1 Kt23.out).1).trans Kt23.out)
      replace Kg := Lib.hid ((hb.block _ (Array.getElem?_eq_some_iff.1 Kg.out).1).trans Kg.out)
      replace EX := Lib.hid (EX.out.later hb hb.size)
      replace HB := Lib.hid (HB.out.trans (hb.mono HB.out.size))
      clear hb hz
      have yt2_0 := cell_blk Kt2.out (j := 0) rfl
      have yt2_1 := cell_blk Kt2.out (j := 1) rfl
      have yt2_2 := cell_blk Kt2.out (j := 2) rfl
      have yt23_0 := cell_blk Kt23.out (j := 0) rfl
      have yt23_1 := cell_blk Kt23.out (j := 1) rfl
      have yt23_2 := cell_blk Kt23.out (j := 2) rfl
      have yt4_0 := cell_blk Kt4.out (j := 0) rfl
      have yt4_1 := cell_blk Kt4.out (j := 1) rfl
      have yt4_2 := cell_blk Kt4.out (j := 2) rfl
      go_wp2_with fail
      refine (HFa.out 15 1 3 w22).mono ?_
      rintro z w23 ⟨rfl, hb⟩
      clear yt2_0 yt2_1 yt2_2 yt23_0 yt23_1 yt23_2 yt4_0 yt4_1 yt4_2
      replace Kt1 := Lib.hid ((hb.block _ (Array.getElem?_eq_some_iff.1 Kt1.out).1).trans Kt1.out)
      replace Kt2 := Lib.hid ((hb.block _ (Array.getElem?_eq_some_iff.1 Kt2.out).1).trans Kt2.out)
      replace Kt3 := Lib.hid ((hb.block _ (Array.getElem?_eq_some_iff.1 Kt3.out).1).trans Kt3.out)
      replace Kt4 := Lib.hid ((hb.block _ (Array.getElem?_eq_some_iff.1 Kt4.out).1).trans Kt4.out)
      replace Kt5 := Lib.hid ((hb.block _ (Array.getElem?_eq_some_iff.1 Kt5.out).1).trans Kt5.out)
      replace Kt6 := Lib.hid ((hb.block _ (Array.getElem?_eq_some_iff.1 Kt6.out).1).trans Kt6.out)
      replace Kt8 := Lib.hid ((hb.block _ (Array.getElem?_eq_some_iff.1 Kt8.out).1).trans Kt8.out)
      replace Kt10 := Lib.hid ((hb.block _ (Array.getElem?_eq_some_iff.1 Kt10.out).1).trans Kt10.out)
      replace Kt12 := Lib.hid ((hb.block _ (Array.getElem?_eq_some_iff.1 Kt12.out).1).trans Kt12.out)
      replace Kt13 := Lib.hid ((hb.block _ (Array.getElem?_eq_some_iff.1 Kt13.out).1).trans Kt13.out)
      replace Kt14 := Lib.hid ((hb.block _ (Array.getElem?_eq_some_iff.1 Kt14.out).1).trans Kt14.out)
      replace Kt15 := Lib.hid ((hb.block _ (Array.getElem?_eq_some_iff.1 Kt15.out).1).trans Kt15.out)
      replace Kt16 := Lib.hid ((hb.block _ (Array.getElem?_eq_some_iff.1 Kt16.out).1).trans Kt16.out)
      replace Kt19 := Lib.hid ((hb.block _ (Array.getElem?_eq_some_iff.1 Kt19.out).1).trans Kt19.out)
      replace Kt20 := Lib.hid ((hb.block _ (Array.getElem?_eq_some_iff.1 Kt20.out).1).trans Kt20.out)
      replace Kt21 := Lib.hid ((hb.block _ (Array.getElem?_eq_some_iff.1 Kt21.out).1).trans Kt21.out)
      replace Kt22 := Lib.hid ((hb.block _ (Array.getElem?_eq_some_iff.1 Kt22.out).1).trans Kt22.out)
      replace Kt23 := Lib.hid ((hb.block _ (Array.getElem?_eq_some_iff.1 Kt23.out).1).trans Kt23.out)
      replace Kg := Lib.hid ((hb.block _ (Array.getElem?_eq_some_iff.1 Kg.out).1).trans Kg.out)
      replace EX := Lib.hid (EX.out.later hb hb.size)
      replace HB := Lib.hid (HB.out.trans (hb.mono HB.out.size))
      clear hb
      have yt6_0 := cell_blk Kt6.out (j := 0) rfl
      have yt6_1 := cell_blk Kt6.out (j := 1) rfl
      have yt6_2 := cell_blk Kt6.out (j := 2) rfl
      go_wp2_with fail
      refine (HFa.out 15 1 2 w23).mono ?_
      rintro z w24 ⟨rfl, hb⟩
      clear yt6_0 yt6_1 yt6_2
      replace Kt1 := Lib.hid ((hb.block _ (Array.getElem?_eq_some_iff.1 Kt1.out).1).trans Kt1.out)
      replace Kt2 := Lib.hid ((hb.block _ (Array.getElem?_eq_some_iff.1 Kt2.out).1).trans Kt2.out)
      replace Kt3 := Lib.hid ((hb.block _ (Array.getElem?_eq_some_iff.1 Kt3.out).1).trans Kt3.out)
      replace Kt4 := Lib.hid ((hb.block _ (Array.getElem?_eq_some_iff.1 Kt4.out).1).trans Kt4.out)
      replace Kt5 := Lib.hid ((hb.block _ (Array.getElem?_eq_some_iff.1 Kt5.out).1).trans Kt5.out)
      replace Kt6 := Lib.hid ((hb.block _ (Array.getElem?_eq_some_iff.1 Kt6.out).1).trans Kt6.out)
      replace Kt8 := Lib.hid ((hb.block _ (Array.getElem?_eq_some_iff.1 Kt8.out).1).trans Kt8.out)
      replace Kt10 := Lib.hid ((hb.block _ (Array.getElem?_eq_some_iff.1 Kt10.out).1).trans Kt10.out)
      replace Kt12 := Lib.hid ((hb.block _ (Array.getElem?_eq_some_iff.1 Kt12.out).1).trans Kt12.out)
      replace Kt13 := Lib.hid ((hb.block _ (Array.getElem?_eq_some_iff.1 Kt13.out).1).trans Kt13.out)
      replace Kt14 := Lib.hid ((hb.block _ (Array.getElem?_eq_some_iff.1 Kt14.out).1).trans Kt14.out)
      replace Kt15 := Lib.hid ((hb.block _ (Array.getElem?_eq_some_iff.1 Kt15.out).1).trans Kt15.out)
      replace Kt16 := Lib.hid ((hb.block _ (Array.getElem?_eq_some_iff.1 Kt16.out).1).trans Kt16.out)
      replace Kt19 := Lib.hid ((hb.block _ (Array.getElem?_eq_some_iff.1 Kt19.out).1).trans Kt19.out)
      replace Kt20 := Lib.hid ((hb.block _ (Array.getElem?_eq_some_iff.1 Kt20.out).1).trans Kt20.out)
      replace Kt21 := Lib.hid ((hb.block _ (Array.getElem?_eq_some_iff.1 Kt21.out).1).trans Kt21.out)
      replace Kt22 := Lib.hid ((hb.block _ (Array.getElem?_eq_some_iff.1 Kt22.out).1).trans Kt22.out)
      replace Kt23 := Lib.hid ((hb.block _ (Array.getElem?_eq_some_iff.1 Kt23.out).1).trans Kt23.out)
      replace Kg := Lib.hid ((hb.block _ (Array.getElem?_eq_some_iff.1 Kg.out).1).trans Kg.out)
      replace EX := Lib.hid (EX.out.later hb hb.size)
      replace HB := Lib.hid (HB.out.trans (hb.mono HB.out.size))
      clear hb
      have yt8_0 := cell_blk Kt8.out (j := 0) rfl
      have yt8_1 := cell_blk Kt8.out (j := 1) rfl
      have yt8_2 := cell_blk Kt8.out (j := 2) rfl
      have yt23_0 := cell_blk Kt23.out (j := 0) rfl
      have yt23_1 := cell_blk Kt23.out (j := 1) rfl
      have yt23_2 := cell_blk Kt23.out (j := 2) rfl
      have yt10_0 := cell_blk Kt10.out (j := 0) rfl
      have yt10_1 := cell_blk Kt10.out (j := 1) rfl
      have yt10_2 := cell_blk Kt10.out (j := 2) rfl
      have yt12_0 := cell_blk Kt12.out (j := 0) rfl
      have yt12_1 := cell_blk Kt12.out (j := 1) rfl
      have yt12_2 := cell_blk Kt12.out (j := 2) rfl
      have yt14_0 := cell_blk Kt14.out (j := 0) rfl
      have yt14_1 := cell_blk Kt14.out (j := 1) rfl
      have yt14_2 := cell_blk Kt14.out (j := 2) rfl
      go_wp2_with fail
      refine (HFa.out 15 1 9 w24).mono ?_
      rintro z w25 ⟨rfl, hb⟩
      clear yt8_0 yt8_1 yt8_2 yt23_0 yt23_1 yt23_2 yt10_0 yt10_1 yt10_2 yt12_0 yt12_1 yt12_2 yt14_0 yt14_1 yt14_2
      replace Kt1 := Lib.hid ((hb.block _ (Array.getElem?_eq_some_iff.1 Kt1.out).1).trans Kt1.out)
      replace Kt2 := Lib.hid ((hb.block _ (Array.getElem?_eq_some_iff.1 Kt2.out).1).trans Kt2.out)
      replace Kt3 := Lib.hid ((hb.block _ (Array.getElem?_eq_some_iff.1 Kt3.out).1).trans Kt3.out)
      replace Kt4 := Lib.hid ((hb.block _ (Array.getElem?_eq_some_iff.1 Kt4.out).1).trans Kt4.out)
      replace Kt5 := Lib.hid ((hb.block _ (Array.getElem?_eq_some_iff.1 Kt5.out).1).trans Kt5.out)
      replace Kt6 := Lib.hid ((hb.block _ (Array.getElem?_eq_some_iff.1 Kt6.out).1).trans Kt6.out)
      replace Kt8 := Lib.hid ((hb.block _ (Array.getElem?_eq_some_iff.1 Kt8.out).1).trans Kt8.out)
      replace Kt10 := Lib.hid ((hb.block _ (Array.getElem?_eq_some_iff.1 Kt10.out).1).trans Kt10.out)
      replace Kt12 := Lib.hid ((hb.block _ (Array.getElem?_eq_some_iff.1 Kt12.out).1).trans Kt12.out)
      replace Kt13 := Lib.hid ((hb.block _ (Array.getElem?_eq_some_iff.1 Kt13.out).1).trans Kt13.out)
      replace Kt14 := Lib.hid ((hb.block _ (Array.getElem?_eq_some_iff.1 Kt14.out).1).trans Kt14.out)
      replace Kt15 := Lib.hid ((hb.block _ (Array.getElem?_eq_some_iff.1 Kt15.out).1).trans Kt15.out)
      replace Kt16 := Lib.hid ((hb.block _ (Array.getElem?_eq_some_iff.1 Kt16.out).1).trans Kt16.out)
      replace Kt19 := Lib.hid ((hb.block _ (Array.getElem?_eq_some_iff.1 Kt19.out).1).trans Kt19.out)
      replace Kt20 := Lib.hid ((hb.block _ (Array.getElem?_eq_some_iff.1 Kt20.out).1).trans Kt20.out)
      replace Kt21 := Lib.hid ((hb.block _ (Array.getElem?_eq_some_iff.1 Kt21.out).1).trans Kt21.out)
      replace Kt22 := Lib.hid ((hb.block _ (Array.getElem?_eq_some_iff.1 Kt22.out).1).trans Kt22.out)
      replace Kt23 := Lib.hid ((hb.block _ (Array.getElem?_eq_some_iff.1 Kt23.out).1).trans Kt23.out)
      replace Kg := Lib.hid ((hb.block _ (Array.getElem?_eq_some_iff.1 Kg.out).1).trans Kg.out)
      replace EX := Lib.hid (EX.out.later hb hb.size)
      replace HB := Lib.hid (HB.out.trans (hb.mono HB.out.size))
      clear hb
      have yt15_0 := cell_blk Kt15.out (j := 0) rfl
      have yt15_1 := cell_blk Kt15.out (j := 1) rfl
      have yt16_0 := cell_blk Kt16.out (j := 0) rfl
      have yt16_1 := cell_blk Kt16.out (j := 1) rfl
      have yt16_2 := cell_blk Kt16.out (j := 2) rfl
      have yt23_0 := cell_blk Kt23.out (j := 0) rfl
      have yt23_1 := cell_blk Kt23.out (j := 1) rfl
      have yt23_2 := cell_blk Kt23.out (j := 2) rfl
      have yt20_0 := cell_blk Kt20.out (j := 0) rfl
      have yt20_1 := cell_blk Kt20.out (j := 1) rfl
      have yt20_2 := cell_blk Kt20.out (j := 2) rfl
      go_wp2_with fail
      refine (HFa.out 12 1 65 w25).mono ?_
      rintro z w26 ⟨rfl, hb⟩
      clear yt15_0 yt15_1 yt16_0 yt16_1 yt16_2 yt23_0 yt23_1 yt23_2 yt20_0 yt20_1 yt20_2
      replace Kt1 := Lib.hid ((hb.block _ (Array.getElem?_eq_some_iff.1 Kt1.out).1).trans Kt1.out)
      replace Kt2 := Lib.hid ((hb.block _ (Array.getElem?_eq_some_iff.1 Kt2.out).1).trans Kt2.out)
      replace Kt3 := Lib.hid ((hb.block _ (Array.getElem?_eq_some_iff.1 Kt3.out).1).trans Kt3.out)
      replace Kt4 := Lib.hid ((hb.block _ (Array.getElem?_eq_some_iff.1 Kt4.out).1).trans Kt4.out)
      replace Kt5 := Lib.hid ((hb.block _ (Array.getElem?_eq_some_iff.1 Kt5.out).1).trans Kt5.out)
      replace Kt6 := Lib.hid ((hb.block _ (Array.getElem?_eq_some_iff.1 Kt6.out).1).trans Kt6.out)
      replace Kt8 := Lib.hid ((hb.block _ (Array.getElem?_eq_some_iff.1 Kt8.out).1).trans Kt8.out)
      replace Kt10 := Lib.hid ((hb.block _ (Array.getElem?_eq_some_iff.1 Kt10.out).1).trans Kt10.out)
      replace Kt12 := Lib.hid ((hb.block _ (Array.getElem?_eq_some_iff.1 Kt12.out).1).trans Kt12.out)
      replace Kt13 := Lib.hid ((hb.block _ (Array.getElem?_eq_some_iff.1 Kt13.out).1).trans Kt13.out)
      replace Kt14 := Lib.hid ((hb.block _ (Array.getElem?_eq_some_iff.1 Kt14.out).1).trans Kt14.out)
      replace Kt15 := Lib.hid ((hb.block _ (Array.getElem?_eq_some_iff.1 Kt15.out).1).trans Kt15.out)
      replace Kt16 := Lib.hid ((hb.block _ (Array.getElem?_eq_some_iff.1 Kt16.out).1).trans Kt16.out)
      replace Kt19 := Lib.hid ((hb.block _ (Array.getElem?_eq_some_iff.1 Kt19.out).1).trans Kt19.out)
      replace Kt20 := Lib.hid ((hb.block _ (Array.getElem?_eq_some_iff.1 Kt20.out).1).trans Kt20.out)
      replace Kt21 := Lib.hid ((hb.block _ (Array.getElem?_eq_some_iff.1 Kt21.out).1).trans Kt21.out)
      replace Kt22 := Lib.hid ((hb.block _ (Array.getElem?_eq_some_iff.1 Kt22.out).1).trans Kt22.out)
      replace Kt23 := Lib.hid ((hb.block _ (Array.getElem?_eq_some_iff.1 Kt23.out).1).trans Kt23.out)
      replace Kg := Lib.hid ((hb.block _ (Array.getElem?_eq_some_iff.1 Kg.out).1).trans Kg.out)
      replace EX := Lib.hid (EX.out.later hb hb.size)
      replace HB := Lib.hid (HB.out.trans (hb.mono HB.out.size))
      clear hb
      go_wp2_with fail
      go_ret
      exact ⟨rfl, HB.out⟩
end Go.Proofs.YtchbnkepmeelkaaGreatDoor
