/- Region 6 of the closed sentence, alone. -/
import Derived.Test.YtkjhofnkgcjcoaaDoorP42
import Derived.Test.YtkjhofnkgcjcoaaDoorP41
import Derived.Deep.RegionHeld3
namespace Go.Proofs.YtkjhofnkgcjcoaaDoor
open Go.RowKit

theorem there_block {w : World} {b : Nat} {cs : Array Value} {t : TypeId} {n : Nat} (h : w.heap[b]? = some (.cells cs t (0, 0))) (hn : n = cs.size) : w.there b 0 n := fun j hj => by
  refine ⟨?_, by simp [World.frozen?, h]⟩
  rw [Nat.zero_add, show w.cell? ⟨b, j, none⟩ = cs[j]? by simp [World.cell?, h], Array.getElem?_eq_getElem (by omega)]; rfl
theorem setCells_blk {t : TypeId} {q : Nat × Nat} (b : Nat) : ∀ (vs pre suf : List Value) (w : World), suf.length = vs.length → w.heap[b]? = some (.cells (pre ++ suf).toArray t q) → (w.setCells b pre.length vs).heap[b]? = some (.cells (pre ++ vs).toArray t q)
  | [], pre, suf, w, h, hk => by
    have : suf = [] := List.eq_nil_of_length_eq_zero h
    subst this; exact hk
  | v :: vs, pre, [], w, h, hk => by simp at h
  | v :: vs, pre, x :: suf, w, h, hk => by
    rw [World.setCells]
    have h1 : (w.setCell ⟨b, pre.length, none⟩ v).heap[b]? = some (.cells ((pre ++ [v]) ++ suf).toArray t q) := by
      simp only [World.setCell, Array.getElem?_modify]
      simp [hk]
    have := setCells_blk b vs (pre ++ [v]) suf _ (by simpa using h) h1
    simp only [List.length_append, List.length_cons, List.length_nil] at this
    rw [this]
    simp
theorem full_set {w : World} {b : Nat} {Z : Array Value} {t : TypeId} (h : w.heap[b]? = some (.cells Z t (0, 0))) (A : Array Value) (hs : Z.size = A.size) : (w.setCells b 0 A.toList).heap[b]? = some (.cells A t (0, 0)) := by
  have := setCells_blk b A.toList [] Z.toList w (by simpa using hs) (by simpa using h)
  simpa using this
theorem below_sets {N b : Nat} {a : World} (hb : N ≤ b) : ∀ (vs : List Value) (o : Nat) {w : World}, Below N a w → Below N a (w.setCells b o vs)
  | [], _, _, h => h
  | v :: vs, o, w, h => by rw [World.setCells]; exact below_sets hb vs (o + 1) (h.setCell (p := ⟨b, o, none⟩) hb v)

set_option maxRecDepth 100000 in
set_option maxHeartbeats 12800000 in
theorem reg6 {u0 u1 u2 u3 u4 u6 u7 u8 u9 u10 u11 u12 u13 u14 u15 u16 u17 u18 u19 u20 u21 u22 u23 u24 u25 u26 u27 u28 u29 u30 u31 u32 u33 u34 u35 u36 u37 u38 u39 u40 u41 u42 u43 u44 u45 u46 u47 u48 u49 u50 u51 u52 u53 u54 u55 u56 u57 u58 u59 u60 u61 u62 u63 u64 u65 u66 u67 u68 u69 u70 u71 u72 u73 u74 u75 u76 u77 u78 u79 u80 u81 u82 u83 u84 u85 u86 u87 u88 u89 u90 u91 u92 u93 u94 u95 u96 u97 u98 u99 u100 u101 u102 u103 u104 u105 u106 u107 u108 u109 u110 u111 u112 u113 u114 u115 u116 u117 u118 u119 u120 u121 u122 u123 u124 u125 u126 u127 u128 u129 u130 u131 u132 u133 u134 u135 u136 u137 u138 u139 u140 u141 u142 u143 u144 u145 u146 : Value} {ds : List Deferred} {b5 c3 : Nat} {p3 : Option Addr} {W7 : World} {Q : Exit → Act → World → Prop} {id : Nat} (HS7 : Hid (W7.rangeAt b5 0 (#[.int .i64 1, .string ⟨#[120]⟩, .slice none 0 0, .int .i64 (nst 62).op, .int .u64 ((nst 62).word : Int), .string (str (nst 62).name), .slice p3 (nst 62).args.len c3, .int .i64 0, .int .u64 0, .string ⟨#[]⟩, .slice none 0 0, .slice none 0 0, .int .u64 0, .int .u64 0, .slice none 0 0, .slice none 0 0] : Array Value).toList ∧ b5 < W7.heap.size))
    (hp : ∀ c (a : Act) (d : Nat) y w, Q (.panic c) (a.put (some d) y) w → Q (.panic c) a w)
    (hq : ∀ (y33 y34 y35 y36 : Value) (b g : Nat) (wx : World), Hid (Below W7.heap.size W7 wx ∧ wx.heap[b]? = some (.cells #[.int .i64 4, .string ⟨#[]⟩, .slice none 0 0, .int .i64 2, .int .u64 0, .string ⟨#[121]⟩, .slice none 0 0, .int .i64 0, .int .u64 0, .string ⟨#[]⟩, .slice none 0 0, .slice none 0 0, .int .u64 0, .int .u64 0, .slice none 0 0, .slice (some ⟨g, 0, none⟩) 1 1] 35 (0, 0)) ∧ wx.heap[g]? = some (.cells #[.int .i64 1, .string ⟨#[120]⟩, .slice none 0 0, .int .i64 (nst 62).op, .int .u64 ((nst 62).word : Int), .string (str (nst 62).name), .slice p3 (nst 62).args.len c3, .int .i64 0, .int .u64 0, .string ⟨#[]⟩, .slice none 0 0, .slice none 0 0, .int .u64 0, .int .u64 0, .slice none 0 0, .slice none 0 0] 35 (0, 0))) → Q .normal { tmps := #[u0, u1, u2, u3, u4, .pointer (some ⟨b5, 0, none⟩), u6, u7, .pointer (some ⟨b, 0, none⟩), u9, u10, u11, u12, u13, u14, u15, u16, u17, u18, u19, u20, u21, u22, u23, u24, u25, u26, u27, u28, u29, u30, u31, u32, y33, y34, y35, y36, u37, u38, u39, u40, u41, u42, u43, u44, u45, u46, u47, u48, u49, u50, u51, u52, u53, u54, u55, u56, u57, u58, u59, u60, u61, u62, u63, u64, u65, u66, u67, u68, u69, u70, u71, u72, u73, u74, u75, u76, u77, u78, u79, u80, u81, u82, u83, u84, u85, u86, u87, u88, u89, u90, u91, u92, u93, u94, u95, u96, u97, u98, u99, u100, u101, u102, u103, u104, u105, u106, u107, u108, u109, u110, u111, u112, u113, u114, u115, u116, u117, u118, u119, u120, u121, u122, u123, u124, u125, u126, u127, u128, u129, u130, u131, u132, u133, u134, u135, u136, u137, u138, u139, u140, u141, u142, u143, u144, u145, u146], defers := ds } wx) :
    (Code.region id #[{ dst := some 33, op := Op.call { callee := Callee.value (Operand.func 6), args := #[Operand.const (Value.string { data := #[121] })], argTypes := #[9] }, type := 29, pos := "law.go:190", after := #[], guard := none }, { dst := some 34, op := Op.load 35 (Operand.tmp 5), type := 35, pos := "law.go:190", after := #[], guard := none }, { dst := some 35, op := Op.buildSlice 33 1 #[(0, Operand.tmp 34)], type := 33, pos := "law.go:190", after := #[{ on := 1, ground := Ground.data }], guard := none }, { dst := some 36, op := Op.build 35 #[(0, Operand.const (Value.int IntKind.i64 4)), (3, Operand.tmp 33), (9, Operand.tmp 35)], type := 35, pos := "law.go:190", after := #[{ on := 0, ground := Ground.data }, { on := 2, ground := Ground.data }], guard := none }, { dst := some 8, op := Op.alloc 35, type := 0, pos := "law.go:190", after := #[], guard := none }, { dst := none, op := Op.store 35 (Operand.tmp 8) (Operand.tmp 36), type := 0, pos := "law.go:190", after := #[{ on := 4, ground := Ground.data }, { on := 3, ground := Ground.data }, { on := 0, ground := Ground.chain }, { on := 0, ground := Ground.phase }, { on := 1, ground := Ground.phase }, { on := 2, ground := Ground.phase }, { on := 3, ground := Ground.phase }, { on := 4, ground := Ground.phase }], guard := none }] true).wp Tryd.prog Q { tmps := #[u0, u1, u2, u3, u4, .pointer (some ⟨b5, 0, none⟩), u6, u7, u8, u9, u10, u11, u12, u13, u14, u15, u16, u17, u18, u19, u20, u21, u22, u23, u24, u25, u26, u27, u28, u29, u30, u31, u32, u33, u34, u35, u36, u37, u38, u39, u40, u41, u42, u43, u44, u45, u46, u47, u48, u49, u50, u51, u52, u53, u54, u55, u56, u57, u58, u59, u60, u61, u62, u63, u64, u65, u66, u67, u68, u69, u70, u71, u72, u73, u74, u75, u76, u77, u78, u79, u80, u81, u82, u83, u84, u85, u86, u87, u88, u89, u90, u91, u92, u93, u94, u95, u96, u97, u98, u99, u100, u101, u102, u103, u104, u105, u106, u107, u108, u109, u110, u111, u112, u113, u114, u115, u116, u117, u118, u119, u120, u121, u122, u123, u124, u125, u126, u127, u128, u129, u130, u131, u132, u133, u134, u135, u136, u137, u138, u139, u140, u141, u142, u143, u144, u145, u146], defers := ds } W7 := by
  have HQ := Lib.hid hq
  clear hq
  have HV := Lib.hid (fun (s : ByteArray) (A : World) => v_any s A)
  have hB0 : Below W7.heap.size W7 W7.drew := (Below.refl _ _).drew
  have HR : ∀ A, Below W7.heap.size W7 A → A.rangeAt b5 0 (#[.int .i64 1, .string ⟨#[120]⟩, .slice none 0 0, .int .i64 (nst 62).op, .int .u64 ((nst 62).word : Int), .string (str (nst 62).name), .slice p3 (nst 62).args.len c3, .int .i64 0, .int .u64 0, .string ⟨#[]⟩, .slice none 0 0, .slice none 0 0, .int .u64 0, .int .u64 0, .slice none 0 0, .slice none 0 0] : Array Value).toList := fun A h => range_later HS7.out.1 HS7.out.2 h
  refine wp_region_held_drew (S := fun W => W.rangeAt b5 0 (#[.int .i64 1, .string ⟨#[120]⟩, .slice none 0 0, .int .i64 (nst 62).op, .int .u64 ((nst 62).word : Int), .string (str (nst 62).name), .slice p3 (nst 62).args.len c3, .int .i64 0, .int .u64 0, .string ⟨#[]⟩, .slice none 0 0, .slice none 0 0, .int .u64 0, .int .u64 0, .slice none 0 0, .slice none 0 0] : Array Value).toList) (by kernel_rfl) ?_ (fun hHeld => ?_)
  · exact HR _ hB0
  refine tk 1 (.agg #[.int .i64 1, .string ⟨#[120]⟩, .slice none 0 0, .int .i64 (nst 62).op, .int .u64 ((nst 62).word : Int), .string (str (nst 62).name), .slice p3 (nst 62).args.len c3, .int .i64 0, .int .u64 0, .string ⟨#[]⟩, .slice none 0 0, .slice none 0 0, .int .u64 0, .int .u64 0, .slice none 0 0, .slice none 0 0]) rfl (yieldsIf_load_mid (by rfl) 35 _ rfl b5 0 (by rfl) (#[.int .i64 1, .string ⟨#[120]⟩, .slice none 0 0, .int .i64 (nst 62).op, .int .u64 ((nst 62).word : Int), .string (str (nst 62).name), .slice p3 (nst 62).args.len c3, .int .i64 0, .int .u64 0, .string ⟨#[]⟩, .slice none 0 0, .slice none 0 0, .int .u64 0, .int .u64 0, .slice none 0 0, .slice none 0 0] : Array Value).toList _ (fun _ h => h) Tryd.underlying35 rfl (infoSt.trans rfl)) ?_ (hQ := fun _ _ _ h => hp _ _ _ _ _ h)
  try simp only [Act.put, List.setIfInBounds_toArray, List.set_cons_zero, List.set_cons_succ]
  refine wpAnyH_ready (rs := [0, 2, 4]) (by kernel_rfl) (by simp) ?_
  refine rdy rfl (fun K hK => ?_) (rdy rfl (fun K hK => ?_) (rdy rfl (fun K hK => ?_) AllReadyH.nil))
  · go_simp
    refine (HV.out _ _).mono ?_
    rintro e v1 ⟨rfl, hV1⟩
    have hB1x : Below (W7.drew).heap.size (W7.drew) v1 := hV1
    have hB1 := hB0.trans (hB1x.mono hB0.size)
    have hsz1 := hB1.size
    refine hK.out _ _ ?_ (fun hHeld => ?_)
    · exact HR _ hB1
    clear hK K
    try simp only [Act.put, List.setIfInBounds_toArray, List.set_cons_zero, List.set_cons_succ]
    refine wpAnyH_ready (rs := [2, 4]) (by kernel_rfl) (by simp) ?_
    refine rdy rfl (fun K hK => ?_) (rdy rfl (fun K hK => ?_) AllReadyH.nil)
    · go_simp
      have hB2x : Below (v1).heap.size (v1) (v1.alloc (.cells #[.int .i64 1, .string ⟨#[120]⟩, .slice none 0 0, .int .i64 (nst 62).op, .int .u64 ((nst 62).word : Int), .string (str (nst 62).name), .slice p3 (nst 62).args.len c3, .int .i64 0, .int .u64 0, .string ⟨#[]⟩, .slice none 0 0, .slice none 0 0, .int .u64 0, .int .u64 0, .slice none 0 0, .slice none 0 0] 35)) := (Below.refl _ _).alloc (Nat.le_refl _) _
      have hB2 := hB1.trans (hB2x.mono hB1.size)
      have hg2 : ((v1.alloc (.cells #[.int .i64 1, .string ⟨#[120]⟩, .slice none 0 0, .int .i64 (nst 62).op, .int .u64 ((nst 62).word : Int), .string (str (nst 62).name), .slice p3 (nst 62).args.len c3, .int .i64 0, .int .u64 0, .string ⟨#[]⟩, .slice none 0 0, .slice none 0 0, .int .u64 0, .int .u64 0, .slice none 0 0, .slice none 0 0] 35))).heap[v1.heap.size]? = some (.cells #[.int .i64 1, .string ⟨#[120]⟩, .slice none 0 0, .int .i64 (nst 62).op, .int .u64 ((nst 62).word : Int), .string (str (nst 62).name), .slice p3 (nst 62).args.len c3, .int .i64 0, .int .u64 0, .string ⟨#[]⟩, .slice none 0 0, .slice none 0 0, .int .u64 0, .int .u64 0, .slice none 0 0, .slice none 0 0] 35 (0, 0)) := by have h0 := heap_alloc_new (v1) (.cells #[.int .i64 1, .string ⟨#[120]⟩, .slice none 0 0, .int .i64 (nst 62).op, .int .u64 ((nst 62).word : Int), .string (str (nst 62).name), .slice p3 (nst 62).args.len c3, .int .i64 0, .int .u64 0, .string ⟨#[]⟩, .slice none 0 0, .slice none 0 0, .int .u64 0, .int .u64 0, .slice none 0 0, .slice none 0 0] 35); simpa using h0
      refine hK.out _ _ ?_ (fun hHeld => ?_)
      · exact HR _ hB2
      clear hK K
      try simp only [Act.put, List.setIfInBounds_toArray, List.set_cons_zero, List.set_cons_succ]
      refine tk 3 ?_ rfl (.inl ⟨by rfl, ?_⟩) ?_ (hQ := fun _ _ _ h => hp _ _ _ _ _ h)
      rotate_left
      · (intro w hSw; (try dsimp only at hSw); go_simp; try with_reducible rfl)
      try simp only [Act.put, List.setIfInBounds_toArray, List.set_cons_zero, List.set_cons_succ]
      refine wpAnyH_ready (rs := [4]) (by kernel_rfl) (by simp) ?_
      refine rdy rfl (fun K hK => ?_) AllReadyH.nil
      go_simp
      have hB3x : Below ((v1.alloc (.cells #[.int .i64 1, .string ⟨#[120]⟩, .slice none 0 0, .int .i64 (nst 62).op, .int .u64 ((nst 62).word : Int), .string (str (nst 62).name), .slice p3 (nst 62).args.len c3, .int .i64 0, .int .u64 0, .string ⟨#[]⟩, .slice none 0 0, .slice none 0 0, .int .u64 0, .int .u64 0, .slice none 0 0, .slice none 0 0] 35))).heap.size ((v1.alloc (.cells #[.int .i64 1, .string ⟨#[120]⟩, .slice none 0 0, .int .i64 (nst 62).op, .int .u64 ((nst 62).word : Int), .string (str (nst 62).name), .slice p3 (nst 62).args.len c3, .int .i64 0, .int .u64 0, .string ⟨#[]⟩, .slice none 0 0, .slice none 0 0, .int .u64 0, .int .u64 0, .slice none 0 0, .slice none 0 0] 35))) ((v1.alloc (.cells #[.int .i64 1, .string ⟨#[120]⟩, .slice none 0 0, .int .i64 (nst 62).op, .int .u64 ((nst 62).word : Int), .string (str (nst 62).name), .slice p3 (nst 62).args.len c3, .int .i64 0, .int .u64 0, .string ⟨#[]⟩, .slice none 0 0, .slice none 0 0, .int .u64 0, .int .u64 0, .slice none 0 0, .slice none 0 0] 35)).alloc (.cells #[.int .i64 0, .string ⟨#[]⟩, .slice none 0 0, .int .i64 0, .int .u64 0, .string ⟨#[]⟩, .slice none 0 0, .int .i64 0, .int .u64 0, .string ⟨#[]⟩, .slice none 0 0, .slice none 0 0, .int .u64 0, .int .u64 0, .slice none 0 0, .slice none 0 0] 35)) := (Below.refl _ _).alloc (Nat.le_refl _) _
      have hB3 := hB2.trans (hB3x.mono hB2.size)
      have hg3 := (hB3x.block _ (blk_lt hg2)).trans hg2
      have hz3 : (((v1.alloc (.cells #[.int .i64 1, .string ⟨#[120]⟩, .slice none 0 0, .int .i64 (nst 62).op, .int .u64 ((nst 62).word : Int), .string (str (nst 62).name), .slice p3 (nst 62).args.len c3, .int .i64 0, .int .u64 0, .string ⟨#[]⟩, .slice none 0 0, .slice none 0 0, .int .u64 0, .int .u64 0, .slice none 0 0, .slice none 0 0] 35)).alloc (.cells #[.int .i64 0, .string ⟨#[]⟩, .slice none 0 0, .int .i64 0, .int .u64 0, .string ⟨#[]⟩, .slice none 0 0, .int .i64 0, .int .u64 0, .string ⟨#[]⟩, .slice none 0 0, .slice none 0 0, .int .u64 0, .int .u64 0, .slice none 0 0, .slice none 0 0] 35))).heap[v1.heap.size + 1]? = some (.cells #[.int .i64 0, .string ⟨#[]⟩, .slice none 0 0, .int .i64 0, .int .u64 0, .string ⟨#[]⟩, .slice none 0 0, .int .i64 0, .int .u64 0, .string ⟨#[]⟩, .slice none 0 0, .slice none 0 0, .int .u64 0, .int .u64 0, .slice none 0 0, .slice none 0 0] 35 (0, 0)) := by have h0 := heap_alloc_new ((v1.alloc (.cells #[.int .i64 1, .string ⟨#[120]⟩, .slice none 0 0, .int .i64 (nst 62).op, .int .u64 ((nst 62).word : Int), .string (str (nst 62).name), .slice p3 (nst 62).args.len c3, .int .i64 0, .int .u64 0, .string ⟨#[]⟩, .slice none 0 0, .slice none 0 0, .int .u64 0, .int .u64 0, .slice none 0 0, .slice none 0 0] 35))) (.cells #[.int .i64 0, .string ⟨#[]⟩, .slice none 0 0, .int .i64 0, .int .u64 0, .string ⟨#[]⟩, .slice none 0 0, .int .i64 0, .int .u64 0, .string ⟨#[]⟩, .slice none 0 0, .slice none 0 0, .int .u64 0, .int .u64 0, .slice none 0 0, .slice none 0 0] 35); simpa using h0
      refine hK.out _ _ ?_ (fun hHeld => ?_)
      · exact HR _ hB3
      clear hK K
      try simp only [Act.put, List.setIfInBounds_toArray, List.set_cons_zero, List.set_cons_succ]
      refine wpAnyH_ready (rs := [5]) (by kernel_rfl) (by simp) ?_
      refine rdy rfl (fun K hK => ?_) AllReadyH.nil
      rw [if_pos (by rfl)]
      refine wp_store_mid 35 _ _ rfl (v1.heap.size + 1) 0 #[.int .i64 4, .string ⟨#[]⟩, .slice none 0 0, .int .i64 2, .int .u64 0, .string ⟨#[121]⟩, .slice none 0 0, .int .i64 0, .int .u64 0, .string ⟨#[]⟩, .slice none 0 0, .slice none 0 0, .int .u64 0, .int .u64 0, .slice none 0 0, .slice (some ⟨(v1.heap.size), 0, none⟩) 1 1] rfl rfl (there_block hz3 rfl) (infoSt.trans rfl) (by kernel_rfl) ?_
      have hF := full_set hz3 #[.int .i64 4, .string ⟨#[]⟩, .slice none 0 0, .int .i64 2, .int .u64 0, .string ⟨#[121]⟩, .slice none 0 0, .int .i64 0, .int .u64 0, .string ⟨#[]⟩, .slice none 0 0, .slice none 0 0, .int .u64 0, .int .u64 0, .slice none 0 0, .slice (some ⟨(v1.heap.size), 0, none⟩) 1 1] rfl
      have hBf : Below W7.heap.size W7 (World.setCells _ (v1.heap.size + 1) 0 (#[.int .i64 4, .string ⟨#[]⟩, .slice none 0 0, .int .i64 2, .int .u64 0, .string ⟨#[121]⟩, .slice none 0 0, .int .i64 0, .int .u64 0, .string ⟨#[]⟩, .slice none 0 0, .slice none 0 0, .int .u64 0, .int .u64 0, .slice none 0 0, .slice (some ⟨(v1.heap.size), 0, none⟩) 1 1] : Array Value).toList) := below_sets (by first | exact Nat.le_refl _ | exact hB3.size | omega) _ _ hB3
      have hgf := (World.heap_setCells_other _ (v1.heap.size + 1) 0 (#[.int .i64 4, .string ⟨#[]⟩, .slice none 0 0, .int .i64 2, .int .u64 0, .string ⟨#[121]⟩, .slice none 0 0, .int .i64 0, .int .u64 0, .string ⟨#[]⟩, .slice none 0 0, .slice none 0 0, .int .u64 0, .int .u64 0, .slice none 0 0, .slice (some ⟨(v1.heap.size), 0, none⟩) 1 1] : Array Value).toList (blk_lt hg3) (by omega)).trans hg3
      refine hK.out _ _ ?_ (fun hHeld => ?_)
      · exact HR _ hBf
      clear hK K
      try simp only [Act.put]
      refine wpAnyH_done (by kernel_rfl) ?_ _
      exact HQ.out _ _ _ _ _ _ _ (Lib.hid ⟨hBf, hF, hgf⟩)
    · go_simp
      have hB4x : Below (v1).heap.size (v1) (v1.alloc (.cells #[.int .i64 0, .string ⟨#[]⟩, .slice none 0 0, .int .i64 0, .int .u64 0, .string ⟨#[]⟩, .slice none 0 0, .int .i64 0, .int .u64 0, .string ⟨#[]⟩, .slice none 0 0, .slice none 0 0, .int .u64 0, .int .u64 0, .slice none 0 0, .slice none 0 0] 35)) := (Below.refl _ _).alloc (Nat.le_refl _) _
      have hB4 := hB1.trans (hB4x.mono hB1.size)
      have hz4 : ((v1.alloc (.cells #[.int .i64 0, .string ⟨#[]⟩, .slice none 0 0, .int .i64 0, .int .u64 0, .string ⟨#[]⟩, .slice none 0 0, .int .i64 0, .int .u64 0, .string ⟨#[]⟩, .slice none 0 0, .slice none 0 0, .int .u64 0, .int .u64 0, .slice none 0 0, .slice none 0 0] 35))).heap[v1.heap.size]? = some (.cells #[.int .i64 0, .string ⟨#[]⟩, .slice none 0 0, .int .i64 0, .int .u64 0, .string ⟨#[]⟩, .slice none 0 0, .int .i64 0, .int .u64 0, .string ⟨#[]⟩, .slice none 0 0, .slice none 0 0, .int .u64 0, .int .u64 0, .slice none 0 0, .slice none 0 0] 35 (0, 0)) := by have h0 := heap_alloc_new (v1) (.cells #[.int .i64 0, .string ⟨#[]⟩, .slice none 0 0, .int .i64 0, .int .u64 0, .string ⟨#[]⟩, .slice none 0 0, .int .i64 0, .int .u64 0, .string ⟨#[]⟩, .slice none 0 0, .slice none 0 0, .int .u64 0, .int .u64 0, .slice none 0 0, .slice none 0 0] 35); simpa using h0
      refine hK.out _ _ ?_ (fun hHeld => ?_)
      · exact HR _ hB4
      clear hK K
      try simp only [Act.put, List.setIfInBounds_toArray, List.set_cons_zero, List.set_cons_succ]
      refine wpAnyH_ready (rs := [2]) (by kernel_rfl) (by simp) ?_
      refine rdy rfl (fun K hK => ?_) AllReadyH.nil
      go_simp
      have hB5x : Below ((v1.alloc (.cells #[.int .i64 0, .string ⟨#[]⟩, .slice none 0 0, .int .i64 0, .int .u64 0, .string ⟨#[]⟩, .slice none 0 0, .int .i64 0, .int .u64 0, .string ⟨#[]⟩, .slice none 0 0, .slice none 0 0, .int .u64 0, .int .u64 0, .slice none 0 0, .slice none 0 0] 35))).heap.size ((v1.alloc (.cells #[.int .i64 0, .string ⟨#[]⟩, .slice none 0 0, .int .i64 0, .int .u64 0, .string ⟨#[]⟩, .slice none 0 0, .int .i64 0, .int .u64 0, .string ⟨#[]⟩, .slice none 0 0, .slice none 0 0, .int .u64 0, .int .u64 0, .slice none 0 0, .slice none 0 0] 35))) ((v1.alloc (.cells #[.int .i64 0, .string ⟨#[]⟩, .slice none 0 0, .int .i64 0, .int .u64 0, .string ⟨#[]⟩, .slice none 0 0, .int .i64 0, .int .u64 0, .string ⟨#[]⟩, .slice none 0 0, .slice none 0 0, .int .u64 0, .int .u64 0, .slice none 0 0, .slice none 0 0] 35)).alloc (.cells #[.int .i64 1, .string ⟨#[120]⟩, .slice none 0 0, .int .i64 (nst 62).op, .int .u64 ((nst 62).word : Int), .string (str (nst 62).name), .slice p3 (nst 62).args.len c3, .int .i64 0, .int .u64 0, .string ⟨#[]⟩, .slice none 0 0, .slice none 0 0, .int .u64 0, .int .u64 0, .slice none 0 0, .slice none 0 0] 35)) := (Below.refl _ _).alloc (Nat.le_refl _) _
      have hB5 := hB4.trans (hB5x.mono hB4.size)
      have hz5 := (hB5x.block _ (blk_lt hz4)).trans hz4
      have hg5 : (((v1.alloc (.cells #[.int .i64 0, .string ⟨#[]⟩, .slice none 0 0, .int .i64 0, .int .u64 0, .string ⟨#[]⟩, .slice none 0 0, .int .i64 0, .int .u64 0, .string ⟨#[]⟩, .slice none 0 0, .slice none 0 0, .int .u64 0, .int .u64 0, .slice none 0 0, .slice none 0 0] 35)).alloc (.cells #[.int .i64 1, .string ⟨#[120]⟩, .slice none 0 0, .int .i64 (nst 62).op, .int .u64 ((nst 62).word : Int), .string (str (nst 62).name), .slice p3 (nst 62).args.len c3, .int .i64 0, .int .u64 0, .string ⟨#[]⟩, .slice none 0 0, .slice none 0 0, .int .u64 0, .int .u64 0, .slice none 0 0, .slice none 0 0] 35))).heap[v1.heap.size + 1]? = some (.cells #[.int .i64 1, .string ⟨#[120]⟩, .slice none 0 0, .int .i64 (nst 62).op, .int .u64 ((nst 62).word : Int), .string (str (nst 62).name), .slice p3 (nst 62).args.len c3, .int .i64 0, .int .u64 0, .string ⟨#[]⟩, .slice none 0 0, .slice none 0 0, .int .u64 0, .int .u64 0, .slice none 0 0, .slice none 0 0] 35 (0, 0)) := by have h0 := heap_alloc_new ((v1.alloc (.cells #[.int .i64 0, .string ⟨#[]⟩, .slice none 0 0, .int .i64 0, .int .u64 0, .string ⟨#[]⟩, .slice none 0 0, .int .i64 0, .int .u64 0, .string ⟨#[]⟩, .slice none 0 0, .slice none 0 0, .int .u64 0, .int .u64 0, .slice none 0 0, .slice none 0 0] 35))) (.cells #[.int .i64 1, .string ⟨#[120]⟩, .slice none 0 0, .int .i64 (nst 62).op, .int .u64 ((nst 62).word : Int), .string (str (nst 62).name), .slice p3 (nst 62).args.len c3, .int .i64 0, .int .u64 0, .string ⟨#[]⟩, .slice none 0 0, .slice none 0 0, .int .u64 0, .int .u64 0, .slice none 0 0, .slice none 0 0] 35); simpa using h0
      refine hK.out _ _ ?_ (fun hHeld => ?_)
      · exact HR _ hB5
      clear hK K
      try simp only [Act.put, List.setIfInBounds_toArray, List.set_cons_zero, List.set_cons_succ]
      refine tk 3 ?_ rfl (.inl ⟨by rfl, ?_⟩) ?_ (hQ := fun _ _ _ h => hp _ _ _ _ _ h)
      rotate_left
      · (intro w hSw; (try dsimp only at hSw); go_simp; try with_reducible rfl)
      try simp only [Act.put, List.setIfInBounds_toArray, List.set_cons_zero, List.set_cons_succ]
      refine wpAnyH_ready (rs := [5]) (by kernel_rfl) (by simp) ?_
      refine rdy rfl (fun K hK => ?_) AllReadyH.nil
      rw [if_pos (by rfl)]
      refine wp_store_mid 35 _ _ rfl (v1.heap.size) 0 #[.int .i64 4, .string ⟨#[]⟩, .slice none 0 0, .int .i64 2, .int .u64 0, .string ⟨#[121]⟩, .slice none 0 0, .int .i64 0, .int .u64 0, .string ⟨#[]⟩, .slice none 0 0, .slice none 0 0, .int .u64 0, .int .u64 0, .slice none 0 0, .slice (some ⟨(v1.heap.size + 1), 0, none⟩) 1 1] rfl rfl (there_block hz5 rfl) (infoSt.trans rfl) (by kernel_rfl) ?_
      have hF := full_set hz5 #[.int .i64 4, .string ⟨#[]⟩, .slice none 0 0, .int .i64 2, .int .u64 0, .string ⟨#[121]⟩, .slice none 0 0, .int .i64 0, .int .u64 0, .string ⟨#[]⟩, .slice none 0 0, .slice none 0 0, .int .u64 0, .int .u64 0, .slice none 0 0, .slice (some ⟨(v1.heap.size + 1), 0, none⟩) 1 1] rfl
      have hBf : Below W7.heap.size W7 (World.setCells _ (v1.heap.size) 0 (#[.int .i64 4, .string ⟨#[]⟩, .slice none 0 0, .int .i64 2, .int .u64 0, .string ⟨#[121]⟩, .slice none 0 0, .int .i64 0, .int .u64 0, .string ⟨#[]⟩, .slice none 0 0, .slice none 0 0, .int .u64 0, .int .u64 0, .slice none 0 0, .slice (some ⟨(v1.heap.size + 1), 0, none⟩) 1 1] : Array Value).toList) := below_sets (by first | exact Nat.le_refl _ | exact hB5.size | omega) _ _ hB5
      have hgf := (World.heap_setCells_other _ (v1.heap.size) 0 (#[.int .i64 4, .string ⟨#[]⟩, .slice none 0 0, .int .i64 2, .int .u64 0, .string ⟨#[121]⟩, .slice none 0 0, .int .i64 0, .int .u64 0, .string ⟨#[]⟩, .slice none 0 0, .slice none 0 0, .int .u64 0, .int .u64 0, .slice none 0 0, .slice (some ⟨(v1.heap.size + 1), 0, none⟩) 1 1] : Array Value).toList (blk_lt hg5) (by omega)).trans hg5
      refine hK.out _ _ ?_ (fun hHeld => ?_)
      · exact HR _ hBf
      clear hK K
      try simp only [Act.put]
      refine wpAnyH_done (by kernel_rfl) ?_ _
      exact HQ.out _ _ _ _ _ _ _ (Lib.hid ⟨hBf, hF, hgf⟩)
  · go_simp
    have hB6x : Below (W7.drew).heap.size (W7.drew) (W7.drew.alloc (.cells #[.int .i64 1, .string ⟨#[120]⟩, .slice none 0 0, .int .i64 (nst 62).op, .int .u64 ((nst 62).word : Int), .string (str (nst 62).name), .slice p3 (nst 62).args.len c3, .int .i64 0, .int .u64 0, .string ⟨#[]⟩, .slice none 0 0, .slice none 0 0, .int .u64 0, .int .u64 0, .slice none 0 0, .slice none 0 0] 35)) := (Below.refl _ _).alloc (Nat.le_refl _) _
    have hB6 := hB0.trans (hB6x.mono hB0.size)
    have hg6 : ((W7.drew.alloc (.cells #[.int .i64 1, .string ⟨#[120]⟩, .slice none 0 0, .int .i64 (nst 62).op, .int .u64 ((nst 62).word : Int), .string (str (nst 62).name), .slice p3 (nst 62).args.len c3, .int .i64 0, .int .u64 0, .string ⟨#[]⟩, .slice none 0 0, .slice none 0 0, .int .u64 0, .int .u64 0, .slice none 0 0, .slice none 0 0] 35))).heap[W7.heap.size]? = some (.cells #[.int .i64 1, .string ⟨#[120]⟩, .slice none 0 0, .int .i64 (nst 62).op, .int .u64 ((nst 62).word : Int), .string (str (nst 62).name), .slice p3 (nst 62).args.len c3, .int .i64 0, .int .u64 0, .string ⟨#[]⟩, .slice none 0 0, .slice none 0 0, .int .u64 0, .int .u64 0, .slice none 0 0, .slice none 0 0] 35 (0, 0)) := by have h0 := heap_alloc_new (W7.drew) (.cells #[.int .i64 1, .string ⟨#[120]⟩, .slice none 0 0, .int .i64 (nst 62).op, .int .u64 ((nst 62).word : Int), .string (str (nst 62).name), .slice p3 (nst 62).args.len c3, .int .i64 0, .int .u64 0, .string ⟨#[]⟩, .slice none 0 0, .slice none 0 0, .int .u64 0, .int .u64 0, .slice none 0 0, .slice none 0 0] 35); simpa using h0
    refine hK.out _ _ ?_ (fun hHeld => ?_)
    · exact HR _ hB6
    clear hK K
    try simp only [Act.put, List.setIfInBounds_toArray, List.set_cons_zero, List.set_cons_succ]
    refine wpAnyH_ready (rs := [0, 4]) (by kernel_rfl) (by simp) ?_
    refine rdy rfl (fun K hK => ?_) (rdy rfl (fun K hK => ?_) AllReadyH.nil)
    · go_simp
      refine (HV.out _ _).mono ?_
      rintro e v7 ⟨rfl, hV7⟩
      have hB7x : Below ((W7.drew.alloc (.cells #[.int .i64 1, .string ⟨#[120]⟩, .slice none 0 0, .int .i64 (nst 62).op, .int .u64 ((nst 62).word : Int), .string (str (nst 62).name), .slice p3 (nst 62).args.len c3, .int .i64 0, .int .u64 0, .string ⟨#[]⟩, .slice none 0 0, .slice none 0 0, .int .u64 0, .int .u64 0, .slice none 0 0, .slice none 0 0] 35))).heap.size ((W7.drew.alloc (.cells #[.int .i64 1, .string ⟨#[120]⟩, .slice none 0 0, .int .i64 (nst 62).op, .int .u64 ((nst 62).word : Int), .string (str (nst 62).name), .slice p3 (nst 62).args.len c3, .int .i64 0, .int .u64 0, .string ⟨#[]⟩, .slice none 0 0, .slice none 0 0, .int .u64 0, .int .u64 0, .slice none 0 0, .slice none 0 0] 35))) v7 := hV7
      have hB7 := hB6.trans (hB7x.mono hB6.size)
      have hsz7 := hB7.size
      have hg7 := (hB7x.block _ (blk_lt hg6)).trans hg6
      have hlg7 := blk_lt hg7
      refine hK.out _ _ ?_ (fun hHeld => ?_)
      · exact HR _ hB7
      clear hK K
      try simp only [Act.put, List.setIfInBounds_toArray, List.set_cons_zero, List.set_cons_succ]
      refine tk 3 ?_ rfl (.inl ⟨by rfl, ?_⟩) ?_ (hQ := fun _ _ _ h => hp _ _ _ _ _ h)
      rotate_left
      · (intro w hSw; (try dsimp only at hSw); go_simp; try with_reducible rfl)
      try simp only [Act.put, List.setIfInBounds_toArray, List.set_cons_zero, List.set_cons_succ]
      refine wpAnyH_ready (rs := [4]) (by kernel_rfl) (by simp) ?_
      refine rdy rfl (fun K hK => ?_) AllReadyH.nil
      go_simp
      have hB8x : Below (v7).heap.size (v7) (v7.alloc (.cells #[.int .i64 0, .string ⟨#[]⟩, .slice none 0 0, .int .i64 0, .int .u64 0, .string ⟨#[]⟩, .slice none 0 0, .int .i64 0, .int .u64 0, .string ⟨#[]⟩, .slice none 0 0, .slice none 0 0, .int .u64 0, .int .u64 0, .slice none 0 0, .slice none 0 0] 35)) := (Below.refl _ _).alloc (Nat.le_refl _) _
      have hB8 := hB7.trans (hB8x.mono hB7.size)
      have hg8 := (hB8x.block _ (blk_lt hg7)).trans hg7
      have hz8 : ((v7.alloc (.cells #[.int .i64 0, .string ⟨#[]⟩, .slice none 0 0, .int .i64 0, .int .u64 0, .string ⟨#[]⟩, .slice none 0 0, .int .i64 0, .int .u64 0, .string ⟨#[]⟩, .slice none 0 0, .slice none 0 0, .int .u64 0, .int .u64 0, .slice none 0 0, .slice none 0 0] 35))).heap[v7.heap.size]? = some (.cells #[.int .i64 0, .string ⟨#[]⟩, .slice none 0 0, .int .i64 0, .int .u64 0, .string ⟨#[]⟩, .slice none 0 0, .int .i64 0, .int .u64 0, .string ⟨#[]⟩, .slice none 0 0, .slice none 0 0, .int .u64 0, .int .u64 0, .slice none 0 0, .slice none 0 0] 35 (0, 0)) := by have h0 := heap_alloc_new (v7) (.cells #[.int .i64 0, .string ⟨#[]⟩, .slice none 0 0, .int .i64 0, .int .u64 0, .string ⟨#[]⟩, .slice none 0 0, .int .i64 0, .int .u64 0, .string ⟨#[]⟩, .slice none 0 0, .slice none 0 0, .int .u64 0, .int .u64 0, .slice none 0 0, .slice none 0 0] 35); simpa using h0
      refine hK.out _ _ ?_ (fun hHeld => ?_)
      · exact HR _ hB8
      clear hK K
      try simp only [Act.put, List.setIfInBounds_toArray, List.set_cons_zero, List.set_cons_succ]
      refine wpAnyH_ready (rs := [5]) (by kernel_rfl) (by simp) ?_
      refine rdy rfl (fun K hK => ?_) AllReadyH.nil
      rw [if_pos (by rfl)]
      refine wp_store_mid 35 _ _ rfl (v7.heap.size) 0 #[.int .i64 4, .string ⟨#[]⟩, .slice none 0 0, .int .i64 2, .int .u64 0, .string ⟨#[121]⟩, .slice none 0 0, .int .i64 0, .int .u64 0, .string ⟨#[]⟩, .slice none 0 0, .slice none 0 0, .int .u64 0, .int .u64 0, .slice none 0 0, .slice (some ⟨(W7.heap.size), 0, none⟩) 1 1] rfl rfl (there_block hz8 rfl) (infoSt.trans rfl) (by kernel_rfl) ?_
      have hF := full_set hz8 #[.int .i64 4, .string ⟨#[]⟩, .slice none 0 0, .int .i64 2, .int .u64 0, .string ⟨#[121]⟩, .slice none 0 0, .int .i64 0, .int .u64 0, .string ⟨#[]⟩, .slice none 0 0, .slice none 0 0, .int .u64 0, .int .u64 0, .slice none 0 0, .slice (some ⟨(W7.heap.size), 0, none⟩) 1 1] rfl
      have hBf : Below W7.heap.size W7 (World.setCells _ (v7.heap.size) 0 (#[.int .i64 4, .string ⟨#[]⟩, .slice none 0 0, .int .i64 2, .int .u64 0, .string ⟨#[121]⟩, .slice none 0 0, .int .i64 0, .int .u64 0, .string ⟨#[]⟩, .slice none 0 0, .slice none 0 0, .int .u64 0, .int .u64 0, .slice none 0 0, .slice (some ⟨(W7.heap.size), 0, none⟩) 1 1] : Array Value).toList) := below_sets (by first | exact Nat.le_refl _ | exact hB8.size | omega) _ _ hB8
      have hgf := (World.heap_setCells_other _ (v7.heap.size) 0 (#[.int .i64 4, .string ⟨#[]⟩, .slice none 0 0, .int .i64 2, .int .u64 0, .string ⟨#[121]⟩, .slice none 0 0, .int .i64 0, .int .u64 0, .string ⟨#[]⟩, .slice none 0 0, .slice none 0 0, .int .u64 0, .int .u64 0, .slice none 0 0, .slice (some ⟨(W7.heap.size), 0, none⟩) 1 1] : Array Value).toList (blk_lt hg8) (by omega)).trans hg8
      refine hK.out _ _ ?_ (fun hHeld => ?_)
      · exact HR _ hBf
      clear hK K
      try simp only [Act.put]
      refine wpAnyH_done (by kernel_rfl) ?_ _
      exact HQ.out _ _ _ _ _ _ _ (Lib.hid ⟨hBf, hF, hgf⟩)
    · go_simp
      have hB9x : Below ((W7.drew.alloc (.cells #[.int .i64 1, .string ⟨#[120]⟩, .slice none 0 0, .int .i64 (nst 62).op, .int .u64 ((nst 62).word : Int), .string (str (nst 62).name), .slice p3 (nst 62).args.len c3, .int .i64 0, .int .u64 0, .string ⟨#[]⟩, .slice none 0 0, .slice none 0 0, .int .u64 0, .int .u64 0, .slice none 0 0, .slice none 0 0] 35))).heap.size ((W7.drew.alloc (.cells #[.int .i64 1, .string ⟨#[120]⟩, .slice none 0 0, .int .i64 (nst 62).op, .int .u64 ((nst 62).word : Int), .string (str (nst 62).name), .slice p3 (nst 62).args.len c3, .int .i64 0, .int .u64 0, .string ⟨#[]⟩, .slice none 0 0, .slice none 0 0, .int .u64 0, .int .u64 0, .slice none 0 0, .slice none 0 0] 35))) ((W7.drew.alloc (.cells #[.int .i64 1, .string ⟨#[120]⟩, .slice none 0 0, .int .i64 (nst 62).op, .int .u64 ((nst 62).word : Int), .string (str (nst 62).name), .slice p3 (nst 62).args.len c3, .int .i64 0, .int .u64 0, .string ⟨#[]⟩, .slice none 0 0, .slice none 0 0, .int .u64 0, .int .u64 0, .slice none 0 0, .slice none 0 0] 35)).alloc (.cells #[.int .i64 0, .string ⟨#[]⟩, .slice none 0 0, .int .i64 0, .int .u64 0, .string ⟨#[]⟩, .slice none 0 0, .int .i64 0, .int .u64 0, .string ⟨#[]⟩, .slice none 0 0, .slice none 0 0, .int .u64 0, .int .u64 0, .slice none 0 0, .slice none 0 0] 35)) := (Below.refl _ _).alloc (Nat.le_refl _) _
      have hB9 := hB6.trans (hB9x.mono hB6.size)
      have hg9 := (hB9x.block _ (blk_lt hg6)).trans hg6
      have hz9 : (((W7.drew.alloc (.cells #[.int .i64 1, .string ⟨#[120]⟩, .slice none 0 0, .int .i64 (nst 62).op, .int .u64 ((nst 62).word : Int), .string (str (nst 62).name), .slice p3 (nst 62).args.len c3, .int .i64 0, .int .u64 0, .string ⟨#[]⟩, .slice none 0 0, .slice none 0 0, .int .u64 0, .int .u64 0, .slice none 0 0, .slice none 0 0] 35)).alloc (.cells #[.int .i64 0, .string ⟨#[]⟩, .slice none 0 0, .int .i64 0, .int .u64 0, .string ⟨#[]⟩, .slice none 0 0, .int .i64 0, .int .u64 0, .string ⟨#[]⟩, .slice none 0 0, .slice none 0 0, .int .u64 0, .int .u64 0, .slice none 0 0, .slice none 0 0] 35))).heap[W7.heap.size + 1]? = some (.cells #[.int .i64 0, .string ⟨#[]⟩, .slice none 0 0, .int .i64 0, .int .u64 0, .string ⟨#[]⟩, .slice none 0 0, .int .i64 0, .int .u64 0, .string ⟨#[]⟩, .slice none 0 0, .slice none 0 0, .int .u64 0, .int .u64 0, .slice none 0 0, .slice none 0 0] 35 (0, 0)) := by have h0 := heap_alloc_new ((W7.drew.alloc (.cells #[.int .i64 1, .string ⟨#[120]⟩, .slice none 0 0, .int .i64 (nst 62).op, .int .u64 ((nst 62).word : Int), .string (str (nst 62).name), .slice p3 (nst 62).args.len c3, .int .i64 0, .int .u64 0, .string ⟨#[]⟩, .slice none 0 0, .slice none 0 0, .int .u64 0, .int .u64 0, .slice none 0 0, .slice none 0 0] 35))) (.cells #[.int .i64 0, .string ⟨#[]⟩, .slice none 0 0, .int .i64 0, .int .u64 0, .string ⟨#[]⟩, .slice none 0 0, .int .i64 0, .int .u64 0, .string ⟨#[]⟩, .slice none 0 0, .slice none 0 0, .int .u64 0, .int .u64 0, .slice none 0 0, .slice none 0 0] 35); simpa using h0
      refine hK.out _ _ ?_ (fun hHeld => ?_)
      · exact HR _ hB9
      clear hK K
      try simp only [Act.put, List.setIfInBounds_toArray, List.set_cons_zero, List.set_cons_succ]
      refine wpAnyH_ready (rs := [0]) (by kernel_rfl) (by simp) ?_
      refine rdy rfl (fun K hK => ?_) AllReadyH.nil
      go_simp
      refine (HV.out _ _).mono ?_
      rintro e v10 ⟨rfl, hV10⟩
      have hB10x : Below (((W7.drew.alloc (.cells #[.int .i64 1, .string ⟨#[120]⟩, .slice none 0 0, .int .i64 (nst 62).op, .int .u64 ((nst 62).word : Int), .string (str (nst 62).name), .slice p3 (nst 62).args.len c3, .int .i64 0, .int .u64 0, .string ⟨#[]⟩, .slice none 0 0, .slice none 0 0, .int .u64 0, .int .u64 0, .slice none 0 0, .slice none 0 0] 35)).alloc (.cells #[.int .i64 0, .string ⟨#[]⟩, .slice none 0 0, .int .i64 0, .int .u64 0, .string ⟨#[]⟩, .slice none 0 0, .int .i64 0, .int .u64 0, .string ⟨#[]⟩, .slice none 0 0, .slice none 0 0, .int .u64 0, .int .u64 0, .slice none 0 0, .slice none 0 0] 35))).heap.size (((W7.drew.alloc (.cells #[.int .i64 1, .string ⟨#[120]⟩, .slice none 0 0, .int .i64 (nst 62).op, .int .u64 ((nst 62).word : Int), .string (str (nst 62).name), .slice p3 (nst 62).args.len c3, .int .i64 0, .int .u64 0, .string ⟨#[]⟩, .slice none 0 0, .slice none 0 0, .int .u64 0, .int .u64 0, .slice none 0 0, .slice none 0 0] 35)).alloc (.cells #[.int .i64 0, .string ⟨#[]⟩, .slice none 0 0, .int .i64 0, .int .u64 0, .string ⟨#[]⟩, .slice none 0 0, .int .i64 0, .int .u64 0, .string ⟨#[]⟩, .slice none 0 0, .slice none 0 0, .int .u64 0, .int .u64 0, .slice none 0 0, .slice none 0 0] 35))) v10 := hV10
      have hB10 := hB9.trans (hB10x.mono hB9.size)
      have hsz10 := hB10.size
      have hz10 := (hB10x.block _ (blk_lt hz9)).trans hz9
      have hg10 := (hB10x.block _ (blk_lt hg9)).trans hg9
      have hlz10 := blk_lt hz10
      have hlg10 := blk_lt hg10
      refine hK.out _ _ ?_ (fun hHeld => ?_)
      · exact HR _ hB10
      clear hK K
      try simp only [Act.put, List.setIfInBounds_toArray, List.set_cons_zero, List.set_cons_succ]
      refine tk 3 ?_ rfl (.inl ⟨by rfl, ?_⟩) ?_ (hQ := fun _ _ _ h => hp _ _ _ _ _ h)
      rotate_left
      · (intro w hSw; (try dsimp only at hSw); go_simp; try with_reducible rfl)
      try simp only [Act.put, List.setIfInBounds_toArray, List.set_cons_zero, List.set_cons_succ]
      refine wpAnyH_ready (rs := [5]) (by kernel_rfl) (by simp) ?_
      refine rdy rfl (fun K hK => ?_) AllReadyH.nil
      rw [if_pos (by rfl)]
      refine wp_store_mid 35 _ _ rfl (W7.heap.size + 1) 0 #[.int .i64 4, .string ⟨#[]⟩, .slice none 0 0, .int .i64 2, .int .u64 0, .string ⟨#[121]⟩, .slice none 0 0, .int .i64 0, .int .u64 0, .string ⟨#[]⟩, .slice none 0 0, .slice none 0 0, .int .u64 0, .int .u64 0, .slice none 0 0, .slice (some ⟨(W7.heap.size), 0, none⟩) 1 1] rfl rfl (there_block hz10 rfl) (infoSt.trans rfl) (by kernel_rfl) ?_
      have hF := full_set hz10 #[.int .i64 4, .string ⟨#[]⟩, .slice none 0 0, .int .i64 2, .int .u64 0, .string ⟨#[121]⟩, .slice none 0 0, .int .i64 0, .int .u64 0, .string ⟨#[]⟩, .slice none 0 0, .slice none 0 0, .int .u64 0, .int .u64 0, .slice none 0 0, .slice (some ⟨(W7.heap.size), 0, none⟩) 1 1] rfl
      have hBf : Below W7.heap.size W7 (World.setCells _ (W7.heap.size + 1) 0 (#[.int .i64 4, .string ⟨#[]⟩, .slice none 0 0, .int .i64 2, .int .u64 0, .string ⟨#[121]⟩, .slice none 0 0, .int .i64 0, .int .u64 0, .string ⟨#[]⟩, .slice none 0 0, .slice none 0 0, .int .u64 0, .int .u64 0, .slice none 0 0, .slice (some ⟨(W7.heap.size), 0, none⟩) 1 1] : Array Value).toList) := below_sets (by first | exact Nat.le_refl _ | exact hB10.size | omega) _ _ hB10
      have hgf := (World.heap_setCells_other _ (W7.heap.size + 1) 0 (#[.int .i64 4, .string ⟨#[]⟩, .slice none 0 0, .int .i64 2, .int .u64 0, .string ⟨#[121]⟩, .slice none 0 0, .int .i64 0, .int .u64 0, .string ⟨#[]⟩, .slice none 0 0, .slice none 0 0, .int .u64 0, .int .u64 0, .slice none 0 0, .slice (some ⟨(W7.heap.size), 0, none⟩) 1 1] : Array Value).toList (blk_lt hg10) (by omega)).trans hg10
      refine hK.out _ _ ?_ (fun hHeld => ?_)
      · exact HR _ hBf
      clear hK K
      try simp only [Act.put]
      refine wpAnyH_done (by kernel_rfl) ?_ _
      exact HQ.out _ _ _ _ _ _ _ (Lib.hid ⟨hBf, hF, hgf⟩)
  · go_simp
    have hB11x : Below (W7.drew).heap.size (W7.drew) (W7.drew.alloc (.cells #[.int .i64 0, .string ⟨#[]⟩, .slice none 0 0, .int .i64 0, .int .u64 0, .string ⟨#[]⟩, .slice none 0 0, .int .i64 0, .int .u64 0, .string ⟨#[]⟩, .slice none 0 0, .slice none 0 0, .int .u64 0, .int .u64 0, .slice none 0 0, .slice none 0 0] 35)) := (Below.refl _ _).alloc (Nat.le_refl _) _
    have hB11 := hB0.trans (hB11x.mono hB0.size)
    have hz11 : ((W7.drew.alloc (.cells #[.int .i64 0, .string ⟨#[]⟩, .slice none 0 0, .int .i64 0, .int .u64 0, .string ⟨#[]⟩, .slice none 0 0, .int .i64 0, .int .u64 0, .string ⟨#[]⟩, .slice none 0 0, .slice none 0 0, .int .u64 0, .int .u64 0, .slice none 0 0, .slice none 0 0] 35))).heap[W7.heap.size]? = some (.cells #[.int .i64 0, .string ⟨#[]⟩, .slice none 0 0, .int .i64 0, .int .u64 0, .string ⟨#[]⟩, .slice none 0 0, .int .i64 0, .int .u64 0, .string ⟨#[]⟩, .slice none 0 0, .slice none 0 0, .int .u64 0, .int .u64 0, .slice none 0 0, .slice none 0 0] 35 (0, 0)) := by have h0 := heap_alloc_new (W7.drew) (.cells #[.int .i64 0, .string ⟨#[]⟩, .slice none 0 0, .int .i64 0, .int .u64 0, .string ⟨#[]⟩, .slice none 0 0, .int .i64 0, .int .u64 0, .string ⟨#[]⟩, .slice none 0 0, .slice none 0 0, .int .u64 0, .int .u64 0, .slice none 0 0, .slice none 0 0] 35); simpa using h0
    refine hK.out _ _ ?_ (fun hHeld => ?_)
    · exact HR _ hB11
    clear hK K
    try simp only [Act.put, List.setIfInBounds_toArray, List.set_cons_zero, List.set_cons_succ]
    refine wpAnyH_ready (rs := [0, 2]) (by kernel_rfl) (by simp) ?_
    refine rdy rfl (fun K hK => ?_) (rdy rfl (fun K hK => ?_) AllReadyH.nil)
    · go_simp
      refine (HV.out _ _).mono ?_
      rintro e v12 ⟨rfl, hV12⟩
      have hB12x : Below ((W7.drew.alloc (.cells #[.int .i64 0, .string ⟨#[]⟩, .slice none 0 0, .int .i64 0, .int .u64 0, .string ⟨#[]⟩, .slice none 0 0, .int .i64 0, .int .u64 0, .string ⟨#[]⟩, .slice none 0 0, .slice none 0 0, .int .u64 0, .int .u64 0, .slice none 0 0, .slice none 0 0] 35))).heap.size ((W7.drew.alloc (.cells #[.int .i64 0, .string ⟨#[]⟩, .slice none 0 0, .int .i64 0, .int .u64 0, .string ⟨#[]⟩, .slice none 0 0, .int .i64 0, .int .u64 0, .string ⟨#[]⟩, .slice none 0 0, .slice none 0 0, .int .u64 0, .int .u64 0, .slice none 0 0, .slice none 0 0] 35))) v12 := hV12
      have hB12 := hB11.trans (hB12x.mono hB11.size)
      have hsz12 := hB12.size
      have hz12 := (hB12x.block _ (blk_lt hz11)).trans hz11
      have hlz12 := blk_lt hz12
      refine hK.out _ _ ?_ (fun hHeld => ?_)
      · exact HR _ hB12
      clear hK K
      try simp only [Act.put, List.setIfInBounds_toArray, List.set_cons_zero, List.set_cons_succ]
      refine wpAnyH_ready (rs := [2]) (by kernel_rfl) (by simp) ?_
      refine rdy rfl (fun K hK => ?_) AllReadyH.nil
      go_simp
      have hB13x : Below (v12).heap.size (v12) (v12.alloc (.cells #[.int .i64 1, .string ⟨#[120]⟩, .slice none 0 0, .int .i64 (nst 62).op, .int .u64 ((nst 62).word : Int), .string (str (nst 62).name), .slice p3 (nst 62).args.len c3, .int .i64 0, .int .u64 0, .string ⟨#[]⟩, .slice none 0 0, .slice none 0 0, .int .u64 0, .int .u64 0, .slice none 0 0, .slice none 0 0] 35)) := (Below.refl _ _).alloc (Nat.le_refl _) _
      have hB13 := hB12.trans (hB13x.mono hB12.size)
      have hz13 := (hB13x.block _ (blk_lt hz12)).trans hz12
      have hg13 : ((v12.alloc (.cells #[.int .i64 1, .string ⟨#[120]⟩, .slice none 0 0, .int .i64 (nst 62).op, .int .u64 ((nst 62).word : Int), .string (str (nst 62).name), .slice p3 (nst 62).args.len c3, .int .i64 0, .int .u64 0, .string ⟨#[]⟩, .slice none 0 0, .slice none 0 0, .int .u64 0, .int .u64 0, .slice none 0 0, .slice none 0 0] 35))).heap[v12.heap.size]? = some (.cells #[.int .i64 1, .string ⟨#[120]⟩, .slice none 0 0, .int .i64 (nst 62).op, .int .u64 ((nst 62).word : Int), .string (str (nst 62).name), .slice p3 (nst 62).args.len c3, .int .i64 0, .int .u64 0, .string ⟨#[]⟩, .slice none 0 0, .slice none 0 0, .int .u64 0, .int .u64 0, .slice none 0 0, .slice none 0 0] 35 (0, 0)) := by have h0 := heap_alloc_new (v12) (.cells #[.int .i64 1, .string ⟨#[120]⟩, .slice none 0 0, .int .i64 (nst 62).op, .int .u64 ((nst 62).word : Int), .string (str (nst 62).name), .slice p3 (nst 62).args.len c3, .int .i64 0, .int .u64 0, .string ⟨#[]⟩, .slice none 0 0, .slice none 0 0, .int .u64 0, .int .u64 0, .slice none 0 0, .slice none 0 0] 35); simpa using h0
      refine hK.out _ _ ?_ (fun hHeld => ?_)
      · exact HR _ hB13
      clear hK K
      try simp only [Act.put, List.setIfInBounds_toArray, List.set_cons_zero, List.set_cons_succ]
      refine tk 3 ?_ rfl (.inl ⟨by rfl, ?_⟩) ?_ (hQ := fun _ _ _ h => hp _ _ _ _ _ h)
      rotate_left
      · (intro w hSw; (try dsimp only at hSw); go_simp; try with_reducible rfl)
      try simp only [Act.put, List.setIfInBounds_toArray, List.set_cons_zero, List.set_cons_succ]
      refine wpAnyH_ready (rs := [5]) (by kernel_rfl) (by simp) ?_
      refine rdy rfl (fun K hK => ?_) AllReadyH.nil
      rw [if_pos (by rfl)]
      refine wp_store_mid 35 _ _ rfl (W7.heap.size) 0 #[.int .i64 4, .string ⟨#[]⟩, .slice none 0 0, .int .i64 2, .int .u64 0, .string ⟨#[121]⟩, .slice none 0 0, .int .i64 0, .int .u64 0, .string ⟨#[]⟩, .slice none 0 0, .slice none 0 0, .int .u64 0, .int .u64 0, .slice none 0 0, .slice (some ⟨(v12.heap.size), 0, none⟩) 1 1] rfl rfl (there_block hz13 rfl) (infoSt.trans rfl) (by kernel_rfl) ?_
      have hF := full_set hz13 #[.int .i64 4, .string ⟨#[]⟩, .slice none 0 0, .int .i64 2, .int .u64 0, .string ⟨#[121]⟩, .slice none 0 0, .int .i64 0, .int .u64 0, .string ⟨#[]⟩, .slice none 0 0, .slice none 0 0, .int .u64 0, .int .u64 0, .slice none 0 0, .slice (some ⟨(v12.heap.size), 0, none⟩) 1 1] rfl
      have hBf : Below W7.heap.size W7 (World.setCells _ (W7.heap.size) 0 (#[.int .i64 4, .string ⟨#[]⟩, .slice none 0 0, .int .i64 2, .int .u64 0, .string ⟨#[121]⟩, .slice none 0 0, .int .i64 0, .int .u64 0, .string ⟨#[]⟩, .slice none 0 0, .slice none 0 0, .int .u64 0, .int .u64 0, .slice none 0 0, .slice (some ⟨(v12.heap.size), 0, none⟩) 1 1] : Array Value).toList) := below_sets (by first | exact Nat.le_refl _ | exact hB13.size | omega) _ _ hB13
      have hgf := (World.heap_setCells_other _ (W7.heap.size) 0 (#[.int .i64 4, .string ⟨#[]⟩, .slice none 0 0, .int .i64 2, .int .u64 0, .string ⟨#[121]⟩, .slice none 0 0, .int .i64 0, .int .u64 0, .string ⟨#[]⟩, .slice none 0 0, .slice none 0 0, .int .u64 0, .int .u64 0, .slice none 0 0, .slice (some ⟨(v12.heap.size), 0, none⟩) 1 1] : Array Value).toList (blk_lt hg13) (by omega)).trans hg13
      refine hK.out _ _ ?_ (fun hHeld => ?_)
      · exact HR _ hBf
      clear hK K
      try simp only [Act.put]
      refine wpAnyH_done (by kernel_rfl) ?_ _
      exact HQ.out _ _ _ _ _ _ _ (Lib.hid ⟨hBf, hF, hgf⟩)
    · go_simp
      have hB14x : Below ((W7.drew.alloc (.cells #[.int .i64 0, .string ⟨#[]⟩, .slice none 0 0, .int .i64 0, .int .u64 0, .string ⟨#[]⟩, .slice none 0 0, .int .i64 0, .int .u64 0, .string ⟨#[]⟩, .slice none 0 0, .slice none 0 0, .int .u64 0, .int .u64 0, .slice none 0 0, .slice none 0 0] 35))).heap.size ((W7.drew.alloc (.cells #[.int .i64 0, .string ⟨#[]⟩, .slice none 0 0, .int .i64 0, .int .u64 0, .string ⟨#[]⟩, .slice none 0 0, .int .i64 0, .int .u64 0, .string ⟨#[]⟩, .slice none 0 0, .slice none 0 0, .int .u64 0, .int .u64 0, .slice none 0 0, .slice none 0 0] 35))) ((W7.drew.alloc (.cells #[.int .i64 0, .string ⟨#[]⟩, .slice none 0 0, .int .i64 0, .int .u64 0, .string ⟨#[]⟩, .slice none 0 0, .int .i64 0, .int .u64 0, .string ⟨#[]⟩, .slice none 0 0, .slice none 0 0, .int .u64 0, .int .u64 0, .slice none 0 0, .slice none 0 0] 35)).alloc (.cells #[.int .i64 1, .string ⟨#[120]⟩, .slice none 0 0, .int .i64 (nst 62).op, .int .u64 ((nst 62).word : Int), .string (str (nst 62).name), .slice p3 (nst 62).args.len c3, .int .i64 0, .int .u64 0, .string ⟨#[]⟩, .slice none 0 0, .slice none 0 0, .int .u64 0, .int .u64 0, .slice none 0 0, .slice none 0 0] 35)) := (Below.refl _ _).alloc (Nat.le_refl _) _
      have hB14 := hB11.trans (hB14x.mono hB11.size)
      have hz14 := (hB14x.block _ (blk_lt hz11)).trans hz11
      have hg14 : (((W7.drew.alloc (.cells #[.int .i64 0, .string ⟨#[]⟩, .slice none 0 0, .int .i64 0, .int .u64 0, .string ⟨#[]⟩, .slice none 0 0, .int .i64 0, .int .u64 0, .string ⟨#[]⟩, .slice none 0 0, .slice none 0 0, .int .u64 0, .int .u64 0, .slice none 0 0, .slice none 0 0] 35)).alloc (.cells #[.int .i64 1, .string ⟨#[120]⟩, .slice none 0 0, .int .i64 (nst 62).op, .int .u64 ((nst 62).word : Int), .string (str (nst 62).name), .slice p3 (nst 62).args.len c3, .int .i64 0, .int .u64 0, .string ⟨#[]⟩, .slice none 0 0, .slice none 0 0, .int .u64 0, .int .u64 0, .slice none 0 0, .slice none 0 0] 35))).heap[W7.heap.size + 1]? = some (.cells #[.int .i64 1, .string ⟨#[120]⟩, .slice none 0 0, .int .i64 (nst 62).op, .int .u64 ((nst 62).word : Int), .string (str (nst 62).name), .slice p3 (nst 62).args.len c3, .int .i64 0, .int .u64 0, .string ⟨#[]⟩, .slice none 0 0, .slice none 0 0, .int .u64 0, .int .u64 0, .slice none 0 0, .slice none 0 0] 35 (0, 0)) := by have h0 := heap_alloc_new ((W7.drew.alloc (.cells #[.int .i64 0, .string ⟨#[]⟩, .slice none 0 0, .int .i64 0, .int .u64 0, .string ⟨#[]⟩, .slice none 0 0, .int .i64 0, .int .u64 0, .string ⟨#[]⟩, .slice none 0 0, .slice none 0 0, .int .u64 0, .int .u64 0, .slice none 0 0, .slice none 0 0] 35))) (.cells #[.int .i64 1, .string ⟨#[120]⟩, .slice none 0 0, .int .i64 (nst 62).op, .int .u64 ((nst 62).word : Int), .string (str (nst 62).name), .slice p3 (nst 62).args.len c3, .int .i64 0, .int .u64 0, .string ⟨#[]⟩, .slice none 0 0, .slice none 0 0, .int .u64 0, .int .u64 0, .slice none 0 0, .slice none 0 0] 35); simpa using h0
      refine hK.out _ _ ?_ (fun hHeld => ?_)
      · exact HR _ hB14
      clear hK K
      try simp only [Act.put, List.setIfInBounds_toArray, List.set_cons_zero, List.set_cons_succ]
      refine wpAnyH_ready (rs := [0]) (by kernel_rfl) (by simp) ?_
      refine rdy rfl (fun K hK => ?_) AllReadyH.nil
      go_simp
      refine (HV.out _ _).mono ?_
      rintro e v15 ⟨rfl, hV15⟩
      have hB15x : Below (((W7.drew.alloc (.cells #[.int .i64 0, .string ⟨#[]⟩, .slice none 0 0, .int .i64 0, .int .u64 0, .string ⟨#[]⟩, .slice none 0 0, .int .i64 0, .int .u64 0, .string ⟨#[]⟩, .slice none 0 0, .slice none 0 0, .int .u64 0, .int .u64 0, .slice none 0 0, .slice none 0 0] 35)).alloc (.cells #[.int .i64 1, .string ⟨#[120]⟩, .slice none 0 0, .int .i64 (nst 62).op, .int .u64 ((nst 62).word : Int), .string (str (nst 62).name), .slice p3 (nst 62).args.len c3, .int .i64 0, .int .u64 0, .string ⟨#[]⟩, .slice none 0 0, .slice none 0 0, .int .u64 0, .int .u64 0, .slice none 0 0, .slice none 0 0] 35))).heap.size (((W7.drew.alloc (.cells #[.int .i64 0, .string ⟨#[]⟩, .slice none 0 0, .int .i64 0, .int .u64 0, .string ⟨#[]⟩, .slice none 0 0, .int .i64 0, .int .u64 0, .string ⟨#[]⟩, .slice none 0 0, .slice none 0 0, .int .u64 0, .int .u64 0, .slice none 0 0, .slice none 0 0] 35)).alloc (.cells #[.int .i64 1, .string ⟨#[120]⟩, .slice none 0 0, .int .i64 (nst 62).op, .int .u64 ((nst 62).word : Int), .string (str (nst 62).name), .slice p3 (nst 62).args.len c3, .int .i64 0, .int .u64 0, .string ⟨#[]⟩, .slice none 0 0, .slice none 0 0, .int .u64 0, .int .u64 0, .slice none 0 0, .slice none 0 0] 35))) v15 := hV15
      have hB15 := hB14.trans (hB15x.mono hB14.size)
      have hsz15 := hB15.size
      have hz15 := (hB15x.block _ (blk_lt hz14)).trans hz14
      have hg15 := (hB15x.block _ (blk_lt hg14)).trans hg14
      have hlz15 := blk_lt hz15
      have hlg15 := blk_lt hg15
      refine hK.out _ _ ?_ (fun hHeld => ?_)
      · exact HR _ hB15
      clear hK K
      try simp only [Act.put, List.setIfInBounds_toArray, List.set_cons_zero, List.set_cons_succ]
      refine tk 3 ?_ rfl (.inl ⟨by rfl, ?_⟩) ?_ (hQ := fun _ _ _ h => hp _ _ _ _ _ h)
      rotate_left
      · (intro w hSw; (try dsimp only at hSw); go_simp; try with_reducible rfl)
      try simp only [Act.put, List.setIfInBounds_toArray, List.set_cons_zero, List.set_cons_succ]
      refine wpAnyH_ready (rs := [5]) (by kernel_rfl) (by simp) ?_
      refine rdy rfl (fun K hK => ?_) AllReadyH.nil
      rw [if_pos (by rfl)]
      refine wp_store_mid 35 _ _ rfl (W7.heap.size) 0 #[.int .i64 4, .string ⟨#[]⟩, .slice none 0 0, .int .i64 2, .int .u64 0, .string ⟨#[121]⟩, .slice none 0 0, .int .i64 0, .int .u64 0, .string ⟨#[]⟩, .slice none 0 0, .slice none 0 0, .int .u64 0, .int .u64 0, .slice none 0 0, .slice (some ⟨(W7.heap.size + 1), 0, none⟩) 1 1] rfl rfl (there_block hz15 rfl) (infoSt.trans rfl) (by kernel_rfl) ?_
      have hF := full_set hz15 #[.int .i64 4, .string ⟨#[]⟩, .slice none 0 0, .int .i64 2, .int .u64 0, .string ⟨#[121]⟩, .slice none 0 0, .int .i64 0, .int .u64 0, .string ⟨#[]⟩, .slice none 0 0, .slice none 0 0, .int .u64 0, .int .u64 0, .slice none 0 0, .slice (some ⟨(W7.heap.size + 1), 0, none⟩) 1 1] rfl
      have hBf : Below W7.heap.size W7 (World.setCells _ (W7.heap.size) 0 (#[.int .i64 4, .string ⟨#[]⟩, .slice none 0 0, .int .i64 2, .int .u64 0, .string ⟨#[121]⟩, .slice none 0 0, .int .i64 0, .int .u64 0, .string ⟨#[]⟩, .slice none 0 0, .slice none 0 0, .int .u64 0, .int .u64 0, .slice none 0 0, .slice (some ⟨(W7.heap.size + 1), 0, none⟩) 1 1] : Array Value).toList) := below_sets (by first | exact Nat.le_refl _ | exact hB15.size | omega) _ _ hB15
      have hgf := (World.heap_setCells_other _ (W7.heap.size) 0 (#[.int .i64 4, .string ⟨#[]⟩, .slice none 0 0, .int .i64 2, .int .u64 0, .string ⟨#[121]⟩, .slice none 0 0, .int .i64 0, .int .u64 0, .string ⟨#[]⟩, .slice none 0 0, .slice none 0 0, .int .u64 0, .int .u64 0, .slice none 0 0, .slice (some ⟨(W7.heap.size + 1), 0, none⟩) 1 1] : Array Value).toList (blk_lt hg15) (by omega)).trans hg15
      refine hK.out _ _ ?_ (fun hHeld => ?_)
      · exact HR _ hBf
      clear hK K
      try simp only [Act.put]
      refine wpAnyH_done (by kernel_rfl) ?_ _
      exact HQ.out _ _ _ _ _ _ _ (Lib.hid ⟨hBf, hF, hgf⟩)
end Go.Proofs.YtkjhofnkgcjcoaaDoor
