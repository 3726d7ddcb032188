/- Two regions of the closed sentence, alone. -/
import Derived.Test.YtkjhofnkgcjcoaaDoorP42
import Derived.Deep.RegionHeld3
namespace Go.Proofs.YtkjhofnkgcjcoaaDoor
open Go.RowKit

set_option maxRecDepth 100000 in
set_option maxHeartbeats 3200000 in
theorem reg16 {u0 u1 u2 u3 u4 u5 u6 u7 u8 u9 u10 u12 u13 u14 u15 u16 u17 u18 u19 u20 u21 u22 u23 u24 u25 u26 u27 u28 u29 u30 u31 u32 u33 u34 u35 u36 u37 u38 u39 u40 u41 u42 u43 u44 u45 u46 u47 u48 u49 u50 u51 u52 u53 u54 u55 u56 u57 u58 u59 u60 u61 u62 u63 u64 u65 u66 u67 u68 u69 u70 u71 u72 u73 u74 u75 u76 u77 u78 u79 u80 u81 u82 u83 u84 u85 u86 u87 u88 u89 u90 u91 u92 u93 u94 u95 u96 u97 u98 u99 u100 u101 u102 u103 u104 u105 u106 u107 u108 u109 u110 u111 u112 u113 u114 u115 u116 u117 u118 u119 u120 u121 u122 u123 u124 u125 u126 u127 u128 u129 u130 u131 u132 u133 u134 u135 u136 u137 u138 u139 u140 u141 u142 u143 u144 u145 u146 : Value} {ds : List Deferred} {F pb k : Nat} {v : Value} {WB wc : World} {Q : Exit → Act → World → Prop} {id : Nat} (hlt : k < 7000) (HL1 : Hid (Lp F pb WB wc k v (repC k)))
    (hp : ∀ c (a : Act) (d : Nat) y w, Q (.panic c) (a.put (some d) y) w → Q (.panic c) a w) (hq : ∀ (y61 y62 y63 y64 y65 y66 y67 y68 y69 y70 y71 y72 y73 : Value) (v2 : Value) (w3 : World), Hid (Lp F pb WB w3 (k + 1) v2 (repC (k + 1))) → Q .normal { tmps := #[u0, u1, u2, u3, u4, u5, u6, u7, u8, u9, u10, .pointer (some ⟨pb, 0, none⟩), u12, u13, u14, u15, u16, u17, u18, u19, u20, u21, u22, u23, u24, u25, u26, u27, u28, u29, u30, u31, u32, u33, u34, u35, u36, u37, u38, u39, u40, u41, u42, u43, u44, u45, u46, u47, u48, u49, u50, u51, u52, u53, u54, u55, u56, u57, u58, u59, u60, y61, y62, y63, y64, y65, y66, y67, y68, y69, y70, y71, y72, y73, u74, u75, u76, u77, u78, u79, u80, u81, u82, u83, u84, u85, u86, u87, u88, u89, u90, u91, u92, u93, u94, u95, u96, u97, u98, u99, u100, u101, u102, u103, u104, u105, u106, u107, u108, u109, u110, u111, u112, u113, u114, u115, u116, u117, u118, u119, u120, u121, u122, u123, u124, u125, u126, u127, u128, u129, u130, u131, u132, u133, u134, u135, u136, u137, u138, u139, u140, u141, u142, u143, u144, u145, u146], defers := ds } w3) :
    (Code.region id #[{ dst := some 61, op := Op.fieldAddr 43 (Operand.tmp 11) 1, type := 0, pos := "law.go:195", after := #[], guard := none }, { dst := some 62, op := Op.load 40 (Operand.tmp 61), type := 40, pos := "law.go:195", after := #[{ on := 0, ground := Ground.data }], guard := none }, { dst := some 63, op := Op.fieldAddr 43 (Operand.tmp 11) 1, type := 0, pos := "law.go:195", after := #[], guard := none }, { dst := some 64, op := Op.load 40 (Operand.tmp 63), type := 40, pos := "law.go:195", after := #[{ on := 2, ground := Ground.data }], guard := none }, { dst := some 65, op := Op.indexAddr 40 (Operand.tmp 64) (Operand.const (Value.int IntKind.i64 0)), type := 0, pos := "law.go:195", after := #[{ on := 3, ground := Ground.data }], guard := none }, { dst := some 66, op := Op.fieldAddr 39 (Operand.tmp 65) 4, type := 0, pos := "law.go:195", after := #[{ on := 4, ground := Ground.data }], guard := none }, { dst := some 67, op := Op.load 33 (Operand.tmp 66), type := 33, pos := "law.go:195", after := #[{ on := 5, ground := Ground.data }], guard := none }, { dst := some 68, op := Op.call { callee := Callee.value (Operand.func 7), args := #[Operand.const (Value.int IntKind.u64 1000000)], argTypes := #[26] }, type := 29, pos := "law.go:195", after := #[], guard := none }, { dst := some 69, op := Op.build 35 #[(0, Operand.const (Value.int IntKind.i64 1)), (1, Operand.const (Value.string { data := #[120] })), (3, Operand.tmp 68)], type := 35, pos := "law.go:195", after := #[{ on := 7, ground := Ground.data }], guard := none }, { dst := some 70, op := Op.buildSlice 33 1 #[(0, Operand.tmp 69)], type := 33, pos := "law.go:195", after := #[{ on := 8, ground := Ground.data }], guard := none }, { dst := some 71, op := Op.call { callee := Callee.builtin Builtin.append, args := #[Operand.tmp 67, Operand.tmp 70], argTypes := #[33, 33] }, type := 33, pos := "law.go:195", after := #[{ on := 6, ground := Ground.data }, { on := 9, ground := Ground.data }, { on := 7, ground := Ground.chain }], guard := none }, { dst := some 72, op := Op.indexAddr 40 (Operand.tmp 62) (Operand.const (Value.int IntKind.i64 0)), type := 0, pos := "law.go:195", after := #[{ on := 1, ground := Ground.data }, { on := 0, ground := Ground.phase }, { on := 1, ground := Ground.phase }, { on := 2, ground := Ground.phase }, { on := 3, ground := Ground.phase }, { on := 4, ground := Ground.phase }, { on := 5, ground := Ground.phase }, { on := 6, ground := Ground.phase }, { on := 7, ground := Ground.phase }, { on := 8, ground := Ground.phase }, { on := 9, ground := Ground.phase }, { on := 10, ground := Ground.phase }], guard := none }, { dst := some 73, op := Op.fieldAddr 39 (Operand.tmp 72) 4, type := 0, pos := "law.go:195", after := #[{ on := 11, ground := Ground.data }, { on := 0, ground := Ground.phase }, { on := 1, ground := Ground.phase }, { on := 2, ground := Ground.phase }, { on := 3, ground := Ground.phase }, { on := 4, ground := Ground.phase }, { on := 5, ground := Ground.phase }, { on := 6, ground := Ground.phase }, { on := 7, ground := Ground.phase }, { on := 8, ground := Ground.phase }, { on := 9, ground := Ground.phase }, { on := 10, ground := Ground.phase }], guard := none }, { dst := none, op := Op.store 33 (Operand.tmp 73) (Operand.tmp 71), type := 0, pos := "law.go:195", after := #[{ on := 12, ground := Ground.data }, { on := 10, ground := Ground.data }, { on := 10, ground := Ground.chain }, { on := 0, ground := Ground.phase }, { on := 1, ground := Ground.phase }, { on := 2, ground := Ground.phase }, { on := 3, ground := Ground.phase }, { on := 4, ground := Ground.phase }, { on := 5, ground := Ground.phase }, { on := 6, ground := Ground.phase }, { on := 7, ground := Ground.phase }, { on := 8, ground := Ground.phase }, { on := 9, ground := Ground.phase }, { on := 10, ground := Ground.phase }], guard := none }] true).wp Tryd.prog Q { tmps := #[u0, u1, u2, u3, u4, u5, u6, u7, u8, u9, u10, .pointer (some ⟨pb, 0, none⟩), u12, u13, u14, u15, u16, u17, u18, u19, u20, u21, u22, u23, u24, u25, u26, u27, u28, u29, u30, u31, u32, u33, u34, u35, u36, u37, u38, u39, u40, u41, u42, u43, u44, u45, u46, u47, u48, u49, u50, u51, u52, u53, u54, u55, u56, u57, u58, u59, u60, u61, u62, u63, u64, u65, u66, u67, u68, u69, u70, u71, u72, u73, u74, u75, u76, u77, u78, u79, u80, u81, u82, u83, u84, u85, u86, u87, u88, u89, u90, u91, u92, u93, u94, u95, u96, u97, u98, u99, u100, u101, u102, u103, u104, u105, u106, u107, u108, u109, u110, u111, u112, u113, u114, u115, u116, u117, u118, u119, u120, u121, u122, u123, u124, u125, u126, u127, u128, u129, u130, u131, u132, u133, u134, u135, u136, u137, u138, u139, u140, u141, u142, u143, u144, u145, u146], defers := ds } wc := by
  have HQ := Lib.hid hq
  clear hq
  obtain ⟨i0, hi0, hiz, his, hib⟩ := info_parts info_st16
  refine bgk 13 (fun W => W.cell? ⟨pb, 1, none⟩ = some (.slice (some ⟨F, 0, none⟩) 1 1) ∧ W.cell? ⟨F, 4, none⟩ = some v) (HL1.out.cells) (fun hHeld => ?_)
  refine tk0 0 ?_ rfl (.inl ⟨by rfl, ?_⟩) ?_ (hQ := fun _ _ _ h => hp _ _ _ _ _ h)
  rotate_left
  · (intro w hSw; (try dsimp only at hSw); go_simp; try with_reducible rfl)
  try simp only [Act.put, List.setIfInBounds_toArray, List.set_cons_zero, List.set_cons_succ]
  refine tkl 1 ?_ rfl (.inl ⟨by rfl, ?_⟩) ?_ (hQ := fun _ _ _ h => hp _ _ _ _ _ h)
  rotate_left
  · (intro w hSw; (try dsimp only at hSw); go_simp; try with_reducible rfl)
  try simp only [Act.put, List.setIfInBounds_toArray, List.set_cons_zero, List.set_cons_succ]
  refine tk0 2 ?_ rfl (.inl ⟨by rfl, ?_⟩) ?_ (hQ := fun _ _ _ h => hp _ _ _ _ _ h)
  rotate_left
  · (intro w hSw; (try dsimp only at hSw); go_simp; try with_reducible rfl)
  try simp only [Act.put, List.setIfInBounds_toArray, List.set_cons_zero, List.set_cons_succ]
  refine tkl 3 ?_ rfl (.inl ⟨by rfl, ?_⟩) ?_ (hQ := fun _ _ _ h => hp _ _ _ _ _ h)
  rotate_left
  · (intro w hSw; (try dsimp only at hSw); go_simp; try with_reducible rfl)
  try simp only [Act.put, List.setIfInBounds_toArray, List.set_cons_zero, List.set_cons_succ]
  refine tk0 4 ?_ rfl (.inl ⟨by rfl, ?_⟩) ?_ (hQ := fun _ _ _ h => hp _ _ _ _ _ h)
  rotate_left
  · (intro w hSw; (try dsimp only at hSw); go_simp; try with_reducible rfl)
  try simp only [Act.put, List.setIfInBounds_toArray, List.set_cons_zero, List.set_cons_succ]
  refine tk0 5 ?_ rfl (.inl ⟨by rfl, ?_⟩) ?_ (hQ := fun _ _ _ h => hp _ _ _ _ _ h)
  rotate_left
  · (intro w hSw; (try dsimp only at hSw); go_simp; try with_reducible rfl)
  try simp only [Act.put, List.setIfInBounds_toArray, List.set_cons_zero, List.set_cons_succ]
  refine tkl 6 ?_ rfl (.inl ⟨by rfl, ?_⟩) ?_ (hQ := fun _ _ _ h => hp _ _ _ _ _ h)
  rotate_left
  · (intro w hSw; (try dsimp only at hSw); go_simp; try with_reducible rfl)
  try simp only [Act.put, List.setIfInBounds_toArray, List.set_cons_zero, List.set_cons_succ]
  refine rdk 7 rfl (fun K hK => ?_)
  go_simp
  refine (c_any 1000000 _).mono ?_
  rintro e wd ⟨rfl, hBd⟩
  have HLd := Lib.hid (HL1.out.later (((Below.refl _ _).drew).trans (hBd.mono (Nat.le_refl _))))
  clear hBd
  refine hK.out _ _ ?_ (fun hHeld => ?_)
  · exact HLd.out.cells
  clear hK K
  try simp only [Act.put, List.setIfInBounds_toArray, List.set_cons_zero, List.set_cons_succ]
  refine tk0 8 ?_ rfl (.inl ⟨by rfl, ?_⟩) ?_ (hQ := fun _ _ _ h => hp _ _ _ _ _ h)
  rotate_left
  · (intro w hSw; (try dsimp only at hSw); go_simp; try with_reducible rfl)
  try simp only [Act.put, List.setIfInBounds_toArray, List.set_cons_zero, List.set_cons_succ]
  have HLa := Lib.hid (HLd.out.later ((Below.refl _ _).alloc (Nat.le_refl _) (.cells setC.toArray 35)))
  have HNa := Lib.hid (fun (j : Nat) (u : Value) (hj : setC[j]? = some u) => show (wd.alloc (.cells setC.toArray 35)).cell? ((⟨wd.heap.size, 0, none⟩ : Addr).add j) = some u from new_at wd _ setC j u hj)
  refine rdk 9 rfl (fun K hK => ?_)
  go_simp
  refine hK.out _ _ ?_ (fun hHeld => ?_)
  · exact HLa.out.cells
  clear hK K
  try simp only [Act.put, List.setIfInBounds_toArray, List.set_cons_zero, List.set_cons_succ]
  refine rdk 10 rfl (fun K hK => ?_)
  rw [if_pos (by rfl)]
  refine wp_append_own _ _ _ 33 rfl (pb + 1) 35 i0 (.agg #[.int .i64 0, .string ByteArray.empty, .slice none 0 0, .int .i64 0, .int .u64 0, .string ByteArray.empty, .slice none 0 0, .int .i64 0, .int .u64 0, .string ByteArray.empty, .slice none 0 0, .slice none 0 0, .int .u64 0, .int .u64 0, .slice none 0 0, .slice none 0 0]) 16 248 Tryd.underlying33 hi0 hiz his hib rfl (by decide) v k (repC k) rfl HLa.out.row ⟨wd.heap.size, 0, none⟩ 1 1 setC rfl rfl HNa.out setC_one (by unfold maxLen; omega) (by omega) (HLa.out.base) ?_
  intro v2 w2 hr2 hg2 _
  obtain ⟨g2, cap2, rfl⟩ := own_form hr2
  have HG2 := Lib.hid (HLa.out.grow hg2)
  have HL3 := Lib.hid (HLa.out.put hg2 hr2)
  rw [repC_snoc] at HL3
  clear hr2 hg2
  refine hK.out _ _ ?_ (fun hHeld => ?_)
  · exact HG2.out.1
  clear hK K HLa HNa HLd
  try simp only [Act.put, List.setIfInBounds_toArray, List.set_cons_zero, List.set_cons_succ]
  refine tk0 11 ?_ rfl (.inl ⟨by rfl, ?_⟩) ?_ (hQ := fun _ _ _ h => hp _ _ _ _ _ h)
  rotate_left
  · (intro w hSw; (try dsimp only at hSw); go_simp; try with_reducible rfl)
  try simp only [Act.put, List.setIfInBounds_toArray, List.set_cons_zero, List.set_cons_succ]
  refine tk0 12 ?_ rfl (.inl ⟨by rfl, ?_⟩) ?_ (hQ := fun _ _ _ h => hp _ _ _ _ _ h)
  rotate_left
  · (intro w hSw; (try dsimp only at hSw); go_simp; try with_reducible rfl)
  try simp only [Act.put, List.setIfInBounds_toArray, List.set_cons_zero, List.set_cons_succ]
  refine rdb 13 rfl (fun K hK => ?_)
  have z1 := HG2.out.1.2
  have f1 := HG2.out.2
  go_simp
  refine hK.out _ _ ?_
  clear hK K z1 f1 HG2
  try simp only [Act.put, List.setIfInBounds_toArray, List.set_cons_zero, List.set_cons_succ]
  refine dnk ?_ (by kernel_rfl) _
  exact HQ.out _ _ _ _ _ _ _ _ _ _ _ _ _ _ _ HL3

set_option maxRecDepth 100000 in
set_option maxHeartbeats 3200000 in
theorem reg14 {u0 u1 u2 u3 u4 u5 u6 u7 u8 u9 u10 u12 u13 u14 u15 u16 u17 u18 u19 u20 u21 u22 u23 u24 u25 u26 u27 u28 u29 u30 u31 u32 u33 u34 u35 u36 u37 u38 u39 u40 u41 u42 u43 u44 u45 u46 u47 u48 u49 u50 u51 u52 u53 u54 u55 u56 u57 u58 u59 u60 u61 u62 u63 u64 u65 u66 u67 u68 u69 u70 u71 u72 u73 u74 u75 u76 u77 u78 u79 u80 u81 u82 u83 u84 u85 u86 u87 u88 u89 u90 u91 u92 u93 u94 u95 u96 u97 u98 u99 u100 u101 u102 u103 u104 u105 u106 u107 u108 u109 u110 u111 u112 u113 u114 u115 u116 u117 u118 u119 u120 u121 u122 u123 u124 u125 u126 u127 u128 u129 u130 u131 u132 u133 u134 u135 u136 u137 u138 u139 u140 u141 u142 u143 u144 u145 u146 : Value} {ds : List Deferred} {F pb k : Nat} {v : Value} {WB wc : World} {Q : Exit → Act → World → Prop} {id : Nat} (hlt : k < 7000) (HL1 : Hid (Lp F pb WB wc k v (repC k)))
    (hp : ∀ c (a : Act) (d : Nat) y w, Q (.panic c) (a.put (some d) y) w → Q (.panic c) a w) (hq : ∀ (y48 y49 y50 y51 y52 y53 y56 y58 y59 : Value) (g2 cap2 : Nat) (w3 : World), Hid (Lp F pb WB w3 (k + 1) (.slice (some ⟨g2, 0, none⟩) (k + 1) cap2) (repC k ++ zerC)) → Q .normal { tmps := #[u0, u1, u2, u3, u4, u5, u6, u7, u8, u9, u10, .pointer (some ⟨pb, 0, none⟩), u12, u13, u14, u15, u16, u17, u18, u19, u20, u21, u22, u23, u24, u25, u26, u27, u28, u29, u30, u31, u32, u33, u34, u35, u36, u37, u38, u39, u40, u41, u42, u43, u44, u45, u46, u47, y48, y49, y50, y51, y52, y53, .agg #[.int .i64 1, .string ⟨#[120]⟩, .slice none 0 0, .int .i64 1, .int .u64 1000000, .string ⟨#[]⟩, .slice none 0 0, .int .i64 0, .int .u64 0, .string ⟨#[]⟩, .slice none 0 0, .slice none 0 0, .int .u64 0, .int .u64 0, .slice none 0 0, .slice none 0 0], .int .i64 k, y56, .slice (some ⟨g2, 0, none⟩) (k + 1) cap2, y58, y59, u60, u61, u62, u63, u64, u65, u66, u67, u68, u69, u70, u71, u72, u73, u74, u75, u76, u77, u78, u79, u80, u81, u82, u83, u84, u85, u86, u87, u88, u89, u90, u91, u92, u93, u94, u95, u96, u97, u98, u99, u100, u101, u102, u103, u104, u105, u106, u107, u108, u109, u110, u111, u112, u113, u114, u115, u116, u117, u118, u119, u120, u121, u122, u123, u124, u125, u126, u127, u128, u129, u130, u131, u132, u133, u134, u135, u136, u137, u138, u139, u140, u141, u142, u143, u144, u145, u146], defers := ds } w3) :
    (Code.region id #[{ dst := some 48, op := Op.fieldAddr 43 (Operand.tmp 11) 1, type := 0, pos := "law.go:195", after := #[], guard := none }, { dst := some 49, op := Op.load 40 (Operand.tmp 48), type := 40, pos := "law.go:195", after := #[{ on := 0, ground := Ground.data }], guard := none }, { dst := some 50, op := Op.indexAddr 40 (Operand.tmp 49) (Operand.const (Value.int IntKind.i64 0)), type := 0, pos := "law.go:195", after := #[{ on := 1, ground := Ground.data }], guard := none }, { dst := some 51, op := Op.fieldAddr 39 (Operand.tmp 50) 4, type := 0, pos := "law.go:195", after := #[{ on := 2, ground := Ground.data }], guard := none }, { dst := some 52, op := Op.load 33 (Operand.tmp 51), type := 33, pos := "law.go:195", after := #[{ on := 3, ground := Ground.data }], guard := none }, { dst := some 53, op := Op.call { callee := Callee.value (Operand.func 7), args := #[Operand.const (Value.int IntKind.u64 1000000)], argTypes := #[26] }, type := 29, pos := "law.go:195", after := #[], guard := none }, { dst := some 54, op := Op.build 35 #[(0, Operand.const (Value.int IntKind.i64 1)), (1, Operand.const (Value.string { data := #[120] })), (3, Operand.tmp 53)], type := 35, pos := "law.go:195", after := #[{ on := 5, ground := Ground.data }], guard := none }, { dst := some 55, op := Op.call { callee := Callee.builtin Builtin.len, args := #[Operand.tmp 52], argTypes := #[33] }, type := 3, pos := "law.go:195", after := #[{ on := 4, ground := Ground.data }], guard := none }, { dst := some 56, op := Op.buildSlice 33 1 #[(0, Operand.const (Value.agg #[Value.int IntKind.i64 0, Value.string { data := #[] }, Value.slice none 0 0, Value.int IntKind.i64 0, Value.int IntKind.u64 0, Value.string { data := #[] }, Value.slice none 0 0, Value.int IntKind.i64 0, Value.int IntKind.u64 0, Value.string { data := #[] }, Value.slice none 0 0, Value.slice none 0 0, Value.int IntKind.u64 0, Value.int IntKind.u64 0, Value.slice none 0 0, Value.slice none 0 0]))], type := 33, pos := "law.go:195", after := #[], guard := none }, { dst := some 57, op := Op.call { callee := Callee.builtin Builtin.append, args := #[Operand.tmp 52, Operand.tmp 56], argTypes := #[33, 33] }, type := 33, pos := "law.go:195", after := #[{ on := 4, ground := Ground.data }, { on := 8, ground := Ground.data }, { on := 5, ground := Ground.chain }, { on := 0, ground := Ground.phase }, { on := 1, ground := Ground.phase }, { on := 2, ground := Ground.phase }, { on := 3, ground := Ground.phase }, { on := 4, ground := Ground.phase }, { on := 5, ground := Ground.phase }, { on := 6, ground := Ground.phase }, { on := 7, ground := Ground.phase }, { on := 8, ground := Ground.phase }], guard := none }, { dst := some 58, op := Op.indexAddr 40 (Operand.tmp 49) (Operand.const (Value.int IntKind.i64 0)), type := 0, pos := "law.go:195", after := #[{ on := 1, ground := Ground.data }, { on := 0, ground := Ground.phase }, { on := 1, ground := Ground.phase }, { on := 2, ground := Ground.phase }, { on := 3, ground := Ground.phase }, { on := 4, ground := Ground.phase }, { on := 5, ground := Ground.phase }, { on := 6, ground := Ground.phase }, { on := 7, ground := Ground.phase }, { on := 8, ground := Ground.phase }, { on := 9, ground := Ground.phase }], guard := none }, { dst := some 59, op := Op.fieldAddr 39 (Operand.tmp 58) 4, type := 0, pos := "law.go:195", after := #[{ on := 10, ground := Ground.data }, { on := 0, ground := Ground.phase }, { on := 1, ground := Ground.phase }, { on := 2, ground := Ground.phase }, { on := 3, ground := Ground.phase }, { on := 4, ground := Ground.phase }, { on := 5, ground := Ground.phase }, { on := 6, ground := Ground.phase }, { on := 7, ground := Ground.phase }, { on := 8, ground := Ground.phase }, { on := 9, ground := Ground.phase }], guard := none }, { dst := none, op := Op.store 33 (Operand.tmp 59) (Operand.tmp 57), type := 0, pos := "law.go:195", after := #[{ on := 11, ground := Ground.data }, { on := 9, ground := Ground.data }, { on := 9, ground := Ground.chain }, { on := 0, ground := Ground.phase }, { on := 1, ground := Ground.phase }, { on := 2, ground := Ground.phase }, { on := 3, ground := Ground.phase }, { on := 4, ground := Ground.phase }, { on := 5, ground := Ground.phase }, { on := 6, ground := Ground.phase }, { on := 7, ground := Ground.phase }, { on := 8, ground := Ground.phase }, { on := 9, ground := Ground.phase }], guard := none }] true).wp Tryd.prog Q { tmps := #[u0, u1, u2, u3, u4, u5, u6, u7, u8, u9, u10, .pointer (some ⟨pb, 0, none⟩), u12, u13, u14, u15, u16, u17, u18, u19, u20, u21, u22, u23, u24, u25, u26, u27, u28, u29, u30, u31, u32, u33, u34, u35, u36, u37, u38, u39, u40, u41, u42, u43, u44, u45, u46, u47, u48, u49, u50, u51, u52, u53, u54, u55, u56, u57, u58, u59, u60, u61, u62, u63, u64, u65, u66, u67, u68, u69, u70, u71, u72, u73, u74, u75, u76, u77, u78, u79, u80, u81, u82, u83, u84, u85, u86, u87, u88, u89, u90, u91, u92, u93, u94, u95, u96, u97, u98, u99, u100, u101, u102, u103, u104, u105, u106, u107, u108, u109, u110, u111, u112, u113, u114, u115, u116, u117, u118, u119, u120, u121, u122, u123, u124, u125, u126, u127, u128, u129, u130, u131, u132, u133, u134, u135, u136, u137, u138, u139, u140, u141, u142, u143, u144, u145, u146], defers := ds } wc := by
  have HQ := Lib.hid hq
  clear hq
  obtain ⟨pv, cv, rfl⟩ := own_len HL1.out.row
  obtain ⟨i0, hi0, hiz, his, hib⟩ := info_parts info_st16
  refine bgk 12 (fun W => W.cell? ⟨pb, 1, none⟩ = some (.slice (some ⟨F, 0, none⟩) 1 1) ∧ W.cell? ⟨F, 4, none⟩ = some (.slice pv k cv)) (HL1.out.cells) (fun hHeld => ?_)
  refine tk0 0 ?_ rfl (.inl ⟨by rfl, ?_⟩) ?_ (hQ := fun _ _ _ h => hp _ _ _ _ _ h)
  rotate_left
  · (intro w hSw; (try dsimp only at hSw); go_simp; try with_reducible rfl)
  try simp only [Act.put, List.setIfInBounds_toArray, List.set_cons_zero, List.set_cons_succ]
  refine tkl 1 ?_ rfl (.inl ⟨by rfl, ?_⟩) ?_ (hQ := fun _ _ _ h => hp _ _ _ _ _ h)
  rotate_left
  · (intro w hSw; (try dsimp only at hSw); go_simp; try with_reducible rfl)
  try simp only [Act.put, List.setIfInBounds_toArray, List.set_cons_zero, List.set_cons_succ]
  refine tk0 2 ?_ rfl (.inl ⟨by rfl, ?_⟩) ?_ (hQ := fun _ _ _ h => hp _ _ _ _ _ h)
  rotate_left
  · (intro w hSw; (try dsimp only at hSw); go_simp; try with_reducible rfl)
  try simp only [Act.put, List.setIfInBounds_toArray, List.set_cons_zero, List.set_cons_succ]
  refine tk0 3 ?_ rfl (.inl ⟨by rfl, ?_⟩) ?_ (hQ := fun _ _ _ h => hp _ _ _ _ _ h)
  rotate_left
  · (intro w hSw; (try dsimp only at hSw); go_simp; try with_reducible rfl)
  try simp only [Act.put, List.setIfInBounds_toArray, List.set_cons_zero, List.set_cons_succ]
  refine tkl 4 ?_ rfl (.inl ⟨by rfl, ?_⟩) ?_ (hQ := fun _ _ _ h => hp _ _ _ _ _ h)
  rotate_left
  · (intro w hSw; (try dsimp only at hSw); go_simp; try with_reducible rfl)
  try simp only [Act.put, List.setIfInBounds_toArray, List.set_cons_zero, List.set_cons_succ]
  refine tk0 7 ?_ rfl (.inl ⟨by rfl, ?_⟩) ?_ (hQ := fun _ _ _ h => hp _ _ _ _ _ h)
  rotate_left
  · (intro w hSw; (try dsimp only at hSw); go_simp; try with_reducible rfl)
  try simp only [Act.put, List.setIfInBounds_toArray, List.set_cons_zero, List.set_cons_succ]
  refine rdk2 5 8 rfl rfl (fun K hK => ?_) (fun K hK => ?_)
  · go_simp
    refine (c_any 1000000 _).mono ?_
    rintro e wd ⟨rfl, hBd⟩
    have HLd := Lib.hid (HL1.out.later (((Below.refl _ _).drew).trans (hBd.mono (Nat.le_refl _))))
    clear hBd
    refine hK.out _ _ ?_ (fun hHeld => ?_)
    · exact HLd.out.cells
    clear hK K
    try simp only [Act.put, List.setIfInBounds_toArray, List.set_cons_zero, List.set_cons_succ]
    refine tk0 6 ?_ rfl (.inl ⟨by rfl, ?_⟩) ?_ (hQ := fun _ _ _ h => hp _ _ _ _ _ h)
    rotate_left
    · (intro w hSw; (try dsimp only at hSw); go_simp; try with_reducible rfl)
    try simp only [Act.put, List.setIfInBounds_toArray, List.set_cons_zero, List.set_cons_succ]
    have HLa := Lib.hid (HLd.out.later ((Below.refl _ _).alloc (Nat.le_refl _) (.cells zerC.toArray 35)))
    have HNa := Lib.hid (fun (j : Nat) (u : Value) (hj : zerC[j]? = some u) => show (wd.alloc (.cells zerC.toArray 35)).cell? ((⟨wd.heap.size, 0, none⟩ : Addr).add j) = some u from new_at wd _ zerC j u hj)
    refine rdk 8 rfl (fun K hK => ?_)
    go_simp
    refine hK.out _ _ ?_ (fun hHeld => ?_)
    · exact HLa.out.cells
    clear hK K
    try simp only [Act.put, List.setIfInBounds_toArray, List.set_cons_zero, List.set_cons_succ]
    refine rdk 9 rfl (fun K hK => ?_)
    rw [if_pos (by rfl)]
    refine wp_append_own _ _ _ 33 rfl (pb + 1) 35 i0 (.agg #[.int .i64 0, .string ByteArray.empty, .slice none 0 0, .int .i64 0, .int .u64 0, .string ByteArray.empty, .slice none 0 0, .int .i64 0, .int .u64 0, .string ByteArray.empty, .slice none 0 0, .slice none 0 0, .int .u64 0, .int .u64 0, .slice none 0 0, .slice none 0 0]) 16 248 Tryd.underlying33 hi0 hiz his hib rfl (by decide) (.slice pv k cv) k (repC k) rfl HLa.out.row ⟨wd.heap.size, 0, none⟩ 1 1 zerC rfl rfl HNa.out zerC_one (by unfold maxLen; omega) (by omega) (HLa.out.base) ?_
    intro v2 w2 hr2 hg2 _
    obtain ⟨g2, cap2, rfl⟩ := own_form hr2
    have HG2 := Lib.hid (HLa.out.grow hg2)
    have HL3 := Lib.hid (HLa.out.put hg2 hr2)
    clear hr2 hg2
    refine hK.out _ _ ?_ (fun hHeld => ?_)
    · exact HG2.out.1
    clear hK K
    try simp only [Act.put, List.setIfInBounds_toArray, List.set_cons_zero, List.set_cons_succ]
    refine tk0 10 ?_ rfl (.inl ⟨by rfl, ?_⟩) ?_ (hQ := fun _ _ _ h => hp _ _ _ _ _ h)
    rotate_left
    · (intro w hSw; (try dsimp only at hSw); go_simp; try with_reducible rfl)
    try simp only [Act.put, List.setIfInBounds_toArray, List.set_cons_zero, List.set_cons_succ]
    refine tk0 11 ?_ rfl (.inl ⟨by rfl, ?_⟩) ?_ (hQ := fun _ _ _ h => hp _ _ _ _ _ h)
    rotate_left
    · (intro w hSw; (try dsimp only at hSw); go_simp; try with_reducible rfl)
    try simp only [Act.put, List.setIfInBounds_toArray, List.set_cons_zero, List.set_cons_succ]
    refine rdb 12 rfl (fun K hK => ?_)
    have z1 := HG2.out.1.2
    have f1 := HG2.out.2
    go_simp
    refine hK.out _ _ ?_
    clear hK K z1 f1 HG2
    try simp only [Act.put, List.setIfInBounds_toArray, List.set_cons_zero, List.set_cons_succ]
    refine dnk ?_ (by kernel_rfl) _
    generalize w2.setCell ⟨F, 4, none⟩ (.slice (some ⟨g2, 0, none⟩) (k + 1) cap2) = w3 at HL3 ⊢
    exact HQ.out _ _ _ _ _ _ _ _ _ g2 cap2 _ HL3
  · have HLa := Lib.hid (HL1.out.later (((Below.refl _ _).drew).alloc (Nat.le_refl _) (.cells zerC.toArray 35)))
    have HNa := Lib.hid (fun (j : Nat) (u : Value) (hj : zerC[j]? = some u) => show (wc.drew.alloc (.cells zerC.toArray 35)).cell? ((⟨wc.heap.size, 0, none⟩ : Addr).add j) = some u from new_at wc.drew _ zerC j u hj)
    go_simp
    refine hK.out _ _ ?_ (fun hHeld => ?_)
    · exact HLa.out.cells
    clear hK K
    try simp only [Act.put, List.setIfInBounds_toArray, List.set_cons_zero, List.set_cons_succ]
    refine rdk 5 rfl (fun K hK => ?_)
    go_simp
    refine (c_any 1000000 _).mono ?_
    rintro e wd ⟨rfl, hBd⟩
    have HNd := Lib.hid (fun (j : Nat) (u : Value) (hj : zerC[j]? = some u) => show wd.cell? ((⟨wc.heap.size, 0, none⟩ : Addr).add j) = some u from (hBd.cell (by rw [add_blk]; simp)).trans (HNa.out j u hj))
    have HLd := Lib.hid (HLa.out.later ((hBd.mono (Nat.le_refl _))))
    clear hBd
    refine hK.out _ _ ?_ (fun hHeld => ?_)
    · exact HLd.out.cells
    clear hK K
    try simp only [Act.put, List.setIfInBounds_toArray, List.set_cons_zero, List.set_cons_succ]
    refine tk0 6 ?_ rfl (.inl ⟨by rfl, ?_⟩) ?_ (hQ := fun _ _ _ h => hp _ _ _ _ _ h)
    rotate_left
    · (intro w hSw; (try dsimp only at hSw); go_simp; try with_reducible rfl)
    try simp only [Act.put, List.setIfInBounds_toArray, List.set_cons_zero, List.set_cons_succ]
    refine rdk 9 rfl (fun K hK => ?_)
    rw [if_pos (by rfl)]
    refine wp_append_own _ _ _ 33 rfl (pb + 1) 35 i0 (.agg #[.int .i64 0, .string ByteArray.empty, .slice none 0 0, .int .i64 0, .int .u64 0, .string ByteArray.empty, .slice none 0 0, .int .i64 0, .int .u64 0, .string ByteArray.empty, .slice none 0 0, .slice none 0 0, .int .u64 0, .int .u64 0, .slice none 0 0, .slice none 0 0]) 16 248 Tryd.underlying33 hi0 hiz his hib rfl (by decide) (.slice pv k cv) k (repC k) rfl HLd.out.row ⟨wc.heap.size, 0, none⟩ 1 1 zerC rfl rfl HNd.out zerC_one (by unfold maxLen; omega) (by omega) (HLd.out.base) ?_
    intro v2 w2 hr2 hg2 _
    obtain ⟨g2, cap2, rfl⟩ := own_form hr2
    have HG2 := Lib.hid (HLd.out.grow hg2)
    have HL3 := Lib.hid (HLd.out.put hg2 hr2)
    clear hr2 hg2
    refine hK.out _ _ ?_ (fun hHeld => ?_)
    · exact HG2.out.1
    clear hK K
    try simp only [Act.put, List.setIfInBounds_toArray, List.set_cons_zero, List.set_cons_succ]
    refine tk0 10 ?_ rfl (.inl ⟨by rfl, ?_⟩) ?_ (hQ := fun _ _ _ h => hp _ _ _ _ _ h)
    rotate_left
    · (intro w hSw; (try dsimp only at hSw); go_simp; try with_reducible rfl)
    try simp only [Act.put, List.setIfInBounds_toArray, List.set_cons_zero, List.set_cons_succ]
    refine tk0 11 ?_ rfl (.inl ⟨by rfl, ?_⟩) ?_ (hQ := fun _ _ _ h => hp _ _ _ _ _ h)
    rotate_left
    · (intro w hSw; (try dsimp only at hSw); go_simp; try with_reducible rfl)
    try simp only [Act.put, List.setIfInBounds_toArray, List.set_cons_zero, List.set_cons_succ]
    refine rdb 12 rfl (fun K hK => ?_)
    have z1 := HG2.out.1.2
    have f1 := HG2.out.2
    go_simp
    refine hK.out _ _ ?_
    clear hK K z1 f1 HG2
    try simp only [Act.put, List.setIfInBounds_toArray, List.set_cons_zero, List.set_cons_succ]
    refine dnk ?_ (by kernel_rfl) _
    generalize w2.setCell ⟨F, 4, none⟩ (.slice (some ⟨g2, 0, none⟩) (k + 1) cap2) = w3 at HL3 ⊢
    exact HQ.out _ _ _ _ _ _ _ _ _ g2 cap2 _ HL3

end Go.Proofs.YtkjhofnkgcjcoaaDoor
