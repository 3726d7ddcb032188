/- The document's memory: New. -/
import Derived.Test.YtajjpaabkdgjbaaB4
import Derived.Deep.RegionLaw
import Derived.Laws.MakeOwn
namespace Go.Proofs.Ytajjpaabkdgjbaa
open Go.RowKit

theorem step_append_own {P : Program} {ops : Array Oper} {o : Oper} {a : Act} {w : World} {K : Act → World → Prop} {Q : Exit → Act → World → Prop} {E : Prop}
    (hgd : o.guard = none) (s x : Operand) (t : TypeId)
    (ho : o.op = .call { callee := .builtin .append, args := #[s, x], argTypes := #[t, t] })
    (base : Nat) (e : TypeId) (i : TypeInfo) (z : Value) (size bytes : Nat) (ht : P.underlying t = some (.slice e)) (hi : P.info? e = some i) (hz : i.zero = some z)
    (hsize : i.size = size) (hby : i.bytes = bytes) (hzs : z.cells.size = size) (hsz : 0 < size)
    (v : Value) (n : Nat) (xs : List Value) (hs : a.eval s = v) (hown : w.ownsRow base e size v n xs)
    (ad : Addr) (m c : Nat) (news : List Value) (hx : a.eval x = .slice (some ad) m c) (hl : news.length = m * size) (hnews : ∀ j u, news[j]? = some u → w.cell? (ad.add j) = some u) (h1 : ∀ u ∈ news, u.oneCell' = true)
    (h63 : n + m ≤ maxLen) (hbytes : (n + m) * bytes ≤ 140737488355328) (hbase : base ≤ w.heap.size)
    (h : ∀ v' w', w'.ownsRow base e size v' (n + m) (xs ++ news) → w.grownBy w' v.ownBlock → K (a.put o.dst v') w') :
    if Region.wanted o (yielded ops a.tmps) = true then Oper.wp P o a w K Q else E := by
  have hw : Region.wanted o (yielded ops a.tmps) = true := by simp [Region.wanted, hgd]
  rw [if_pos hw]
  exact wp_append_own w s x t ho base e i z size bytes ht hi hz hsize hby hzs hsz v n xs hs hown ad m c news hx hl hnews h1 h63 hbytes hbase fun v' w' h2 h3 _ => h v' w' h2 h3

theorem info_u8 : (Try.prog.info? 5).map (fun i => (i.zero, i.size, i.bytes)) = some (some (.int .u8 0), 1, 1) := by kernel_rfl
/-- noughts: whatever array makeSlice lays, it is noughts -/
theorem make_u8 : ∃ Z : Array Value, (∀ w : World, (Instr.makeSlice 49 (.int .i64 65536) (.int .i64 65536)).run Try.prog w = .ok (.slice (some ⟨w.heap.size, 0, none⟩) 65536 65536) (w.alloc (.cells Z 5 (0, 0)))) ∧ ∀ j, j < 65536 → Z[j]? = some (.int .u8 0) := by
  obtain ⟨i0, hi, hz0, hz1, hz2⟩ := info_parts info_u8
  refine ⟨madeCells #[.int .u8 0] 65536, fun w => ?_, fun j hj => ?_⟩
  · have h := run_make (P := Try.prog) w 49 5 i0 (.int .u8 0) Try.underlying49 hi hz0 .i64 .i64 65536 65536 (by decide) (by decide) (by rw [hz2]; decide) (by decide)
    rw [hz1] at h
    exact h
  · have h := toList_madeCells_one (.int .u8 0) 65536
    rw [← Array.getElem?_toList, h, List.getElem?_replicate, if_pos hj]

/-- the document's memory at block g -/
def RefIs (w : World) (B g : Nat) (l : List Rg) (bt : Nat → Nat) : Prop :=
  ∃ (p : Option Addr) (c q : Nat), w.cell? ⟨g, 0, none⟩ = some (.slice p l.length c) ∧ w.cell? ⟨g, 1, none⟩ = some (.slice (some ⟨q, 0, none⟩) 65536 65536) ∧
    RgIn w g l p ∧ B ≤ q ∧ q < g ∧ g < w.heap.size ∧ l.length ≤ c ∧ c ≤ 9223372036854775807 ∧ (p = none → c = 0) ∧ (0 < l.length → ∀ b o, p = some ⟨b, o, none⟩ → B ≤ b ∧ b ≠ q) ∧
    (∀ j, j < 65536 → w.cell? ⟨q, j, none⟩ = some (.int .u8 (bt j)) ∧ w.frozen? ⟨q, j, none⟩ = false) ∧ ∀ j, bt j < 256

theorem app_a {w w1 : World} {l : List Rg} {v : Value} (hown : w1.ownsRow w.heap.size 66 4 v (0 + l.length) ([] ++ rgCells l)) (hg : w.drew.grownBy w1 (Value.slice none 0 0).ownBlock) (hl : l.length ≤ 1000000) : RgOwn w.heap.size w1 l v ∧ Below w.heap.size w w1 := by
  rw [Nat.zero_add, List.nil_append] at hown
  exact ⟨own_rg hown hl, (Below.refl _ w).drew.grown hg (Nat.le_refl _) (fun k hk => by simp [Value.ownBlock] at hk)⟩
theorem app_b {w w1 : World} {l : List Rg} {v : Value} {o : Obj} (hown : w1.ownsRow (w.heap.size + 1) 66 4 v (0 + l.length) ([] ++ rgCells l)) (hg : (w.drew.alloc o).grownBy w1 (Value.slice none 0 0).ownBlock) (hl : l.length ≤ 1000000) :
    RgOwn (w.heap.size + 1) w1 l v ∧ Below w.heap.size w w1 ∧ Below (w.heap.size + 1) (w.drew.alloc o) w1 := by
  rw [Nat.zero_add, List.nil_append] at hown
  exact ⟨own_rg hown hl, ((Below.refl _ w).drew.alloc (Nat.le_refl _) o).grown hg (by simp) (fun k hk => by simp [Value.ownBlock] at hk), (Below.refl _ _).grown hg (by simp) (fun k hk => by simp [Value.ownBlock] at hk)⟩

theorem RefIs.far {w w' : World} {B g : Nat} {l : List Rg} {f : Nat → Nat} (h : RefIs w B g l f) (hk : ∀ k, B ≤ k → k ≤ g → w'.heap[k]? = w.heap[k]?) (hz : g < w'.heap.size) : RefIs w' B g l f := by
  obtain ⟨p, c, q, h1, h2, h4, h5, h6, h7, h8, h9, h10, h11, h12, h13⟩ := h
  have cg : ∀ o, w'.cell? ⟨g, o, none⟩ = w.cell? ⟨g, o, none⟩ := fun o => World.cell?_of_block (w := w) (hk g (by omega) (Nat.le_refl _))
  have cq : ∀ o, w'.cell? ⟨q, o, none⟩ = w.cell? ⟨q, o, none⟩ := fun o => World.cell?_of_block (w := w) (hk q h5 (by omega))
  have fq : ∀ o, w'.frozen? ⟨q, o, none⟩ = w.frozen? ⟨q, o, none⟩ := fun o => World.frozen?_of_block (w := w) (hk q h5 (by omega))
  refine ⟨p, c, q, (cg 0).trans h1, (cg 1).trans h2, ⟨h4.1, ?_⟩, h5, h6, hz, h8, h9, h10, h11, fun j hj => ⟨(cq _).trans (h12 j hj).1, (fq _).trans (h12 j hj).2⟩, h13⟩
  rcases h4.2 with h0 | ⟨b, o, hp, hb, ha⟩
  · exact .inl h0
  · by_cases h0 : l.length = 0
    · exact .inl h0
    · exact .inr ⟨b, o, hp, hb, RgAt.keep (fun _ => World.cell?_of_block (w := w) (hk b (h11 (by omega) b o hp).1 (by omega))) l o ha⟩
theorem RefIs.later {w w' : World} {B g : Nat} {l : List Rg} {f : Nat → Nat} (h : RefIs w B g l f) (hB : Below w.heap.size w w') : RefIs w' B g l f := by
  have hg : g < w.heap.size := by obtain ⟨p, c, q, h1, h2, h4, h5, h6, h7, _⟩ := h; exact h7
  exact h.far (fun k _ hk => hB.block k (by omega)) (Nat.lt_of_lt_of_le hg hB.size)
theorem RgOwn.later {w w' : World} {B : Nat} {l : List Rg} {v : Value} (h : RgOwn B w l v) (hB : Below w.heap.size w w') : RgOwn B w' l v := by
  obtain ⟨q, d, hv, hin, hr⟩ := h
  exact ⟨q, d, hv, hin.later hB hB.size, hr⟩
theorem RgOwn.base {w : World} {B B' : Nat} {l : List Rg} {v : Value} (h : RgOwn B w l v) (hB : B' ≤ B) : RgOwn B' w l v := by
  obtain ⟨q, d, hv, hin, h1, h2, h3, h4⟩ := h
  exact ⟨q, d, hv, hin, h1, h2, h3, fun b o hq => Nat.le_trans hB (h4 b o hq)⟩
theorem RgOwn.lt {w : World} {B : Nat} {l : List Rg} {v : Value} (h : RgOwn B w l v) {b o n c : Nat} (h0 : 0 < l.length) (hv : v = .slice (some ⟨b, o, none⟩) n c) : b ≠ w.heap.size := by
  obtain ⟨q, d, rfl, hin, h1, h2, h3, h4⟩ := h
  cases hv
  rcases hin.2 with h | ⟨b', o', hp, hb, _⟩
  · omega
  · cases hp; omega
theorem RgOwn.ne {w : World} {B : Nat} {l : List Rg} {v : Value} (h : RgOwn (B + 1) w l v) {b o n c : Nat} (hv : v = .slice (some ⟨b, o, none⟩) n c) : b ≠ B := by
  obtain ⟨q, d, rfl, hin, h1, h2, h3, h4⟩ := h
  cases hv
  have := h4 b o rfl; omega
theorem ref_of {W : World} {B : Nat} {l : List Rg} {v : Value} {q : Nat} {Z : Array Value} (hZ : ∀ j, j < 65536 → Z[j]? = some (.int .u8 0)) (h : RgOwn B W l v) (hne : 0 < l.length → ∀ b o n c, v = .slice (some ⟨b, o, none⟩) n c → b ≠ q) (hq : W.heap[q]? = some (.cells Z 5 (0, 0))) (hB : B ≤ q) :
    RefIs (W.alloc (.cells #[v, .slice (some ⟨q, 0, none⟩) 65536 65536] 52 (0, 0))) B W.heap.size l (fun _ => 0) := by
  obtain ⟨p, d, rfl, hin, hd1, hd2, hd3, hd4⟩ := h
  have hqs : q < W.heap.size := by
    rcases Nat.lt_or_ge q W.heap.size with h | h
    · exact h
    · rw [Array.getElem?_eq_none h] at hq; cases hq
  refine ⟨p, d, q, by simp [go_sem], by simp [go_sem], hin.later ((Below.refl _ _).alloc (Nat.le_refl _) _) (Nat.le_refl _), hB, hqs, by simp, hd1, hd2, hd3, fun h0 b o hp => ⟨hd4 b o hp, hne h0 b o _ _ (by rw [hp])⟩, fun j hj => ⟨?_, ?_⟩, fun _ => by simp⟩
  · rw [World.cell?_alloc_past _ _ _ (by exact hqs), cell_of_row _ _ _ _ _ _ hq]; exact hZ j hj
  · rw [World.frozen?_alloc_past _ _ _ (by exact hqs)]; unfold World.frozen?; simp only [hq]; simp

set_option maxRecDepth 100000 in
set_option maxHeartbeats 1600000 in
theorem refNew_any (l : List Rg) (ad : Addr) (c N : Nat) (w : World) (h : RgIn w N l (some ad)) (hN : N ≤ w.heap.size) (hl : l.length ≤ 1000000) :
    Calls Try.prog 35 #[.slice (some ad) l.length c] w fun e w' => (∃ g, e = .returned (.pointer (some ⟨g, 0, none⟩)) ∧ RefIs w' w.heap.size g l (fun _ => 0)) ∧ Below w.heap.size w w' := by
  obtain ⟨i0, hi, hz0, hz1, hz2⟩ := info_parts info_rg
  obtain ⟨Z, hmk, hZ⟩ := make_u8
  have HZ := Lib.hid hZ
  clear hZ
  have HS := Lib.hid h
  have HN := Lib.hid hN
  have HX : Hid (∀ w' : World, Below w.heap.size w w' → ∀ j u, (rgCells l)[j]? = some u → w'.cell? (ad.add j) = some u) := Lib.hid fun w' hB => by
    rcases (Src.rg (HS.out.later (hB.mono HN.out) (Nat.le_refl _)) (fun h => by cases h) : Src w' 4 (some ad) l.length c (rgCells l)).2 with ⟨h, _⟩ | ⟨ad', h, hc⟩
    · cases h
    · cases h; exact hc
  have H0 : ∀ (W : World) (B : Nat), W.ownsRow B 66 4 (.slice none 0 0) 0 [] := fun W B => ⟨rfl, .inl ⟨rfl, rfl⟩⟩
  have H0 := Lib.hid H0
  clear h hN
  go_enter Try.func35, Try.ntmps35
  go_wp2_with fail
  go_region_law (first
    | (refine step_append_own (by rfl) (.const (.slice none 0 0)) (.tmp 3) 22 (by rfl) w.heap.size 66 i0 (.agg #[.string ByteArray.empty, .int .i64 0, .int .i64 0, .bool false]) 4 40 Try.underlying22 hi hz0 hz1 hz2 rfl (by decide) (.slice none 0 0) 0 [] (by rfl) (H0.out _ _) ad l.length c (rgCells l) (by rfl) (rg_len l) (HX.out _ (Below.refl _ w).drew) (oneRg l) (by unfold maxLen; omega) (by omega) (by simp) ?_; intro v' w1 hown hgrow; have HV := Lib.hid (app_a hown hgrow hl); obtain ⟨q1, d1, rfl, _⟩ := HV.out.1; clear hown hgrow)
    | (refine step_append_own (by rfl) (.const (.slice none 0 0)) (.tmp 3) 22 (by rfl) (w.heap.size + 1) 66 i0 (.agg #[.string ByteArray.empty, .int .i64 0, .int .i64 0, .bool false]) 4 40 Try.underlying22 hi hz0 hz1 hz2 rfl (by decide) (.slice none 0 0) 0 [] (by rfl) (H0.out _ _) ad l.length c (rgCells l) (by rfl) (rg_len l) (HX.out _ ((Below.refl _ w).drew.alloc (by simp) _)) (oneRg l) (by unfold maxLen; omega) (by omega) (by simp) ?_; intro v' w1 hown hgrow; have HW := Lib.hid (app_b hown hgrow hl); obtain ⟨q1, d1, rfl, _⟩ := HW.out.1; clear hown hgrow))
  all_goals go_wp2_with fail
  all_goals go_ret
  · obtain ⟨h1, h2⟩ := HV.out
    have hs := h2.size
    have hR := ref_of HZ.out (W := w1.alloc (.cells Z 5 (0, 0))) (q := w1.heap.size) (h1.later ((Below.refl _ _).alloc (Nat.le_refl _) _)) (fun h0 b o n c hv => h1.lt h0 hv) (heap_alloc_new w1 _) hs
    exact ⟨⟨_, rfl, by simpa using hR⟩, (h2.alloc hs _).alloc (by simp; omega) _⟩
  · obtain ⟨h1, h2, h3⟩ := HW.out
    have hs := h2.size
    have hR := ref_of HZ.out (W := w1) (q := w.heap.size) (h1.base (Nat.le_succ _)) (fun _ b o n c hv => h1.ne hv) ((h3.block _ (Nat.lt_succ_self _)).trans (heap_alloc_new w.drew _)) (Nat.le_refl _)
    exact ⟨⟨_, rfl, hR⟩, h2.alloc hs _⟩

set_option maxRecDepth 100000 in
set_option maxHeartbeats 1600000 in
theorem refNew_nil (w : World) :
    Calls Try.prog 35 #[.slice none 0 0] w fun e w' => (∃ g, e = .returned (.pointer (some ⟨g, 0, none⟩)) ∧ RefIs w' w.heap.size g [] (fun _ => 0)) ∧ Below w.heap.size w w' := by
  obtain ⟨i0, hi, hz0, hz1, hz2⟩ := info_parts info_rg
  obtain ⟨Z, hmk, hZ⟩ := make_u8
  have HZ := Lib.hid hZ
  clear hZ
  have hap : ∀ W : World, (Builtin.append_ #[22, 22] 22 #[.slice none 0 0, .slice none 0 0]).run Try.prog W = .ok (.slice none 0 0) W := fun W =>
    run_append_owned_none W W.heap.size 22 22 66 i0 4 Try.underlying22 hi (.slice none 0 0) 0 [] ⟨rfl, .inl ⟨rfl, rfl⟩⟩
  clear hi hz0 hz1 hz2
  go_enter Try.func35, Try.ntmps35
  go_wp2_with fail
  go_region_law (fail)
  all_goals go_wp2_with fail
  all_goals go_ret
  all_goals
    have h1 : RgOwn w.heap.size (w.alloc (.cells Z 5 (0, 0))) [] (.slice none 0 0) := ⟨none, 0, rfl, ⟨by simp, .inl rfl⟩, by simp, by simp, fun _ => rfl, fun _ _ h => by cases h⟩
    have hR := (ref_of HZ.out (W := w.alloc (.cells Z 5 (0, 0))) (q := w.heap.size) h1 (fun _ b o n c hv => by cases hv) (heap_alloc_new w _) (Nat.le_refl _)).later (Below.refl _ _).drew
    exact ⟨⟨_, rfl, by simpa using hR⟩, (((Below.refl _ w).alloc (Nat.le_refl _) _).alloc (by simp) _).drew⟩
theorem refNew_all (l : List Rg) (p : Option Addr) (c N : Nat) (w : World) (h : RgIn w N l p) (hN : N ≤ w.heap.size) (hl : l.length ≤ 1000000) (hp : p = none → c = 0) :
    Calls Try.prog 35 #[.slice p l.length c] w fun e w' => (∃ g, e = .returned (.pointer (some ⟨g, 0, none⟩)) ∧ RefIs w' w.heap.size g l (fun _ => 0)) ∧ Below w.heap.size w w' := by
  cases p with
  | none =>
    rcases h.2 with h0 | ⟨b, o, hq, _⟩
    · have : l = [] := List.eq_nil_of_length_eq_zero h0
      subst this
      rw [hp rfl]
      exact refNew_nil w
    · cases hq
  | some ad => exact refNew_any l ad c N w h hN hl
end Go.Proofs.Ytajjpaabkdgjbaa
