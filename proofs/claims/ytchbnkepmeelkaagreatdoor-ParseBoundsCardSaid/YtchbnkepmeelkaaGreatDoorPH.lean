/- KF, KG, KH, Q0, KI as one. -/
import Derived.Test.YtchbnkepmeelkaaGreatDoorPG
import Derived.Maps.AppendAt
import Derived.Laws.AppendOwnNone
import Derived.WalkSpells
import Derived.Test.YtchbnkepmeelkaaGreatDoorPA
import Derived.Deep.MidRow
import Derived.Laws.CopyRow
/- Any expression. -/
namespace Go.Proofs.YtchbnkepmeelkaaGreatDoor
open Go.RowKit

set_option maxRecDepth 100000 in
set_option maxHeartbeats 3200000 in
theorem expr_wrong (c : Nat) (t : Tok) (b : Bool) (p : Pp) (k d : Nat) (w : World) (h : Ps w p.pb p.tb p.tf p.tc p.ts k d) (hk : k < p.ts.length) (_hE : Ends p.ts) (ht : p.ts[k]? = some t) (hb : beginsE t = b) (hc : ∀ (w : World), Ps w p.pb p.tb p.tf p.tc p.ts k d → Calls Tryz.prog 160 #[.pointer (some ⟨p.pb, 0, none⟩), .bool b] w fun z w' => z = WrongIs (c : Int) t ∧ Ps w' p.pb p.tb p.tf p.tc p.ts k d ∧ But p.pb w w') :
    Calls Tryz.prog 100 #[.pointer (some ⟨p.pb, 0, none⟩)] w (Post RExpr ((.no c t : Res Ex)) p d w) := by
  have hpb := h.lt_pb
  have CE := Lib.hid (fun (w : World) (h : Ps w p.pb p.tb p.tf p.tc p.ts k d) => isExpr_any p.pb p.tb p.tf p.tc k d p.ts t w h ht)
  have CB := Lib.hid (hc)
  obtain ⟨W0, hW0⟩ : ∃ W0, w.alloc (.cells #[.int .i64 0, .int .u64 0, .string ⟨#[]⟩, .slice none 0 0] 39) = W0 := ⟨_, rfl⟩
  have hB0 : Below w.heap.size w W0 := by rw [← hW0]; exact (Below.refl _ _).alloc (Nat.le_refl _) _
  have Kr := Lib.hid (show W0.heap[w.heap.size]? = some (.cells #[.int .i64 0, .int .u64 0, .string ⟨#[]⟩, .slice none 0 0] 39 (0, 0)) by rw [← hW0]; exact heap_alloc_new w _)
  have Nr := Lib.hid (Nat.ne_of_gt hpb)
  have Nr2 := Lib.hid (Nat.ne_of_gt h.lt)
  have BB := Lib.hid (But.of_below (g := p.pb) hB0)
  have SS := Lib.hid (And.intro (h.later hB0) hk)
  clear hB0
  have PB := Lib.hid hpb
  rw [hb] at CE
  clear h hk _hE hpb ht hb hc
  generalize hG : ((.no c t : Res Ex)) = G
  have HG := Lib.hid hG
  clear hG
  go_enter_defers Tryz.func100, Tryz.ntmps100
  go_wp2_with fail
  try rw [hW0]
  clear hW0
  refine (CE.out W0 SS.out.1).mono ?_
  rintro z w1 ⟨rfl, hBX⟩
  replace Kr := Lib.hid ((hBX.block _ (Array.getElem?_eq_some_iff.1 Kr.out).1).trans Kr.out)
  replace SS := Lib.hid (And.intro (SS.out.1.later hBX) SS.out.2)
  replace BB := Lib.hid (BB.out.trans (But.of_below hBX))
  clear hBX
  go_wp2_with fail
  refine (CB.out w1 SS.out.1).mono ?_
  rintro z w9 ⟨rfl, hp, hb⟩
  have HN := Lib.hid (show Post RExpr G p d w (WrongIs (c : Int) t) w9 from .no k c t HG.out.symm hp (BB.out.trans hb) rfl)
  clear hp hb
  unfold WrongIs
  go_wp2_with fail
  exact HN.out


theorem Res.bind_assoc {α β γ : Type} (x : Res α) (f : α → List Tok → Res β) (g : β → List Tok → Res γ) : (x.bind f).bind g = x.bind fun a r => (f a r).bind g := by cases x <;> rfl
theorem expr_all (p : Pp) (hE : Ends p.ts) (hW : Words p.ts) : ∀ n d, d + n = 64 → ExprC p n d := by
  intro n
  induction n with
  | zero =>
    intro d hd k w h hk
    obtain ⟨t, ht⟩ := tok_at hk
    have hh := drop_hd ht
    unfold exprP
    rw [hh]
    by_cases hb : beginsE t = true
    · rw [if_pos hb]
      exact expr_wrong 12 t true p k d w h hk hE ht hb (fun w h => begin_nest p.pb p.tb p.tf p.tc k d p.ts t w h ht (by omega))
    · rw [if_neg hb]
      exact expr_wrong 15 t false p k d w h hk hE ht (by simpa using hb) (fun w h => begin_no p.pb p.tb p.tf p.tc k d p.ts t w h ht)
  | succ n ih =>
    intro d hd k w h hk
    have HX := ih (d + 1) (by omega)
    have hd' : d < 64 := by omega
    obtain ⟨t, ht⟩ := tok_at hk
    have hh := drop_hd ht
    unfold exprP
    by_cases hb : beginsE t = true
    case neg =>
      rw [hh, if_pos (by simpa using hb)]
      exact expr_wrong 15 t false p k d w h hk hE ht (by simpa using hb) (fun w h => begin_no p.pb p.tb p.tf p.tc k d p.ts t w h ht)
    have hb' : beginsE (hdT (p.ts.drop k)) = true := by rw [hh]; exact hb
    rw [if_neg (by rw [hb']; decide)]
    by_cases h3 : (hdT (p.ts.drop k)).kind = 3
    · rw [if_pos h3]
      have := expr_num n p k d w h hk hE hW hd' HX hb' h3
      unfold numP at this
      rw [if_pos h3] at this
      exact this
    rw [if_neg h3, drop_tl]
    by_cases hA : (hdT (p.ts.drop k)).kind = 1 ∧ (hdT (p.ts.drop (k + 1))).text = [91]
    · rw [if_pos hA]
      have := expr_index n p k d w h hk hE hW hd' HX hb' h3 hA
      unfold indexP nameP placeP wantP at this
      rw [if_pos hA.1, Res.bind_ok, drop_tl, if_pos hA.2, Res.bind_ok, Res.bind_assoc] at this
      simp only [Res.bind_assoc, Res.bind_ok] at this
      unfold wantP
      exact this
    rw [if_neg hA]
    by_cases hT : (hdT (p.ts.drop k)).text = [126]
    · rw [if_pos hT]
      exact expr_not n p k d w h hk hE hW hd' HX hb' h3 hA hT
    rw [if_neg hT]
    by_cases hM : (hdT (p.ts.drop k)).text = [45]
    · rw [if_pos hM]
      exact expr_neg n p k d w h hk hE hW hd' HX hb' h3 hA hT hM
    rw [if_neg hM]
    by_cases hP : (hdT (p.ts.drop k)).text = [40]
    · rw [if_pos hP]
      exact expr_two n p k d w h hk hE hW hd' HX hb' h3 hA hT hM hP
    rw [if_neg hP]
    by_cases hK : (hdT (p.ts.drop k)).text = [112, 105, 99, 107]
    · rw [if_pos hK]
      exact expr_pick n p k d w h hk hE hW hd' HX hb' h3 hA hT hM hP hK
    rw [if_neg hK]
    exact expr_var n p k d w h hk hE hW hd' HX hb' h3 hA hT hM hP hK
end Go.Proofs.YtchbnkepmeelkaaGreatDoor
/- Rows of things read: how they lie, an append of one more. -/
namespace Go.Proofs.YtchbnkepmeelkaaGreatDoor
open Go.RowKit

/-- rows of things, each with where its slices lie -/
def encs {α σ : Type} (enc : α → σ → List Value) (zs : List (α × σ)) : List Value := zs.flatMap fun z => enc z.1 z.2
theorem encs_cons {α σ : Type} (enc : α → σ → List Value) (z : α × σ) (r : List (α × σ)) : encs enc (z :: r) = enc z.1 z.2 ++ encs enc r := rfl
theorem encs_app {α σ : Type} (enc : α → σ → List Value) (a b : List (α × σ)) : encs enc (a ++ b) = encs enc a ++ encs enc b := by simp [encs]
theorem Row.closeZ {α σ : Type} {A : α → Nat → Nat → Prop} {enc : α → σ → List Value} {k b : Nat} {w : World} (hk : ∀ x s, (enc x s).length = k)
    : ∀ (zs : List (α × σ)) (o : Nat), (∀ z ∈ zs, ∀ o, (∀ j v, (enc z.1 z.2)[j]? = some v → w.cell? ⟨b, o + j, none⟩ = some v) → A z.1 b o) → (∀ j u, (encs enc zs)[j]? = some u → w.cell? ⟨b, o + j, none⟩ = some u) → Row A k (zs.map Prod.fst) b o
  | [], _, _, _ => trivial
  | z :: r, o, hA, h => by
    refine ⟨hA z (by simp) o fun j v hv => h j v ?_, Row.closeZ hk r (o + k) (fun y hy => hA y (by simp [hy])) fun j u hu => ?_⟩
    · rw [encs_cons, List.getElem?_append_left (List.getElem?_eq_some_iff.1 hv).1]; exact hv
    · have := h (k + j) u (by rw [encs_cons, List.getElem?_append_right (by rw [hk]; omega), hk, Nat.add_sub_cancel_left]; exact hu)
      rw [show o + (k + j) = o + k + j by omega] at this
      exact this
/-- things read by now: each lies where the row does not -/
def Els {α σ : Type} (B0 : Nat) (w : World) (row : Option Nat) (OK : World → Nat → α → σ → Prop) (zs : List (α × σ)) : Prop :=
  ∀ z ∈ zs, ∃ A B, Fresh A B w (fun W N => OK W N z.1 z.2) ∧ B0 ≤ A ∧ B ≤ w.heap.size ∧ ∀ g, row = some g → g < A ∨ B ≤ g
theorem Els.nil {α σ : Type} (B0 : Nat) (w : World) (row : Option Nat) (OK : World → Nat → α → σ → Prop) : Els B0 w row OK [] := fun _ h => by cases h
theorem Els.but {α σ : Type} {B0 g : Nat} {w w' : World} {row : Option Nat} {OK : World → Nat → α → σ → Prop} {zs : List (α × σ)} (h : Els B0 w row OK zs) (hb : But g w w') (hg : g < B0) : Els B0 w' row OK zs := fun z hz => by
  obtain ⟨A, B, h1, h2, h3, h4⟩ := h z hz
  exact ⟨A, B, h1.but hb (by omega) h3, h2, Nat.le_trans h3 hb.size, h4⟩
theorem Els.bel {α σ : Type} {B0 : Nat} {w w' : World} {row : Option Nat} {OK : World → Nat → α → σ → Prop} {zs : List (α × σ)} (h : Els B0 w row OK zs) (hb : Below w.heap.size w w') : Els B0 w' row OK zs := fun z hz => by
  obtain ⟨A, B, h1, h2, h3, h4⟩ := h z hz
  exact ⟨A, B, h1.bel hb h3, h2, Nat.le_trans h3 hb.size, h4⟩
theorem Els.grown {α σ : Type} {B0 : Nat} {w w' : World} {row row' : Option Nat} {OK : World → Nat → α → σ → Prop} {zs : List (α × σ)} (h : Els B0 w row OK zs) (hg : w.grownBy w' row) (hr : row' = row ∨ row' = some w.heap.size) : Els B0 w' row' OK zs := fun z hz => by
  obtain ⟨A, B, h1, h2, h3, h4⟩ := h z hz
  refine ⟨A, B, h1.to ⟨Nat.le_trans h3 hg.size, fun k k1 k2 => hg.block k (by omega) fun e => ?_⟩, h2, Nat.le_trans h3 hg.size, fun g hgr => ?_⟩
  · have := h4 k e.symm
    omega
  · rcases hr with rfl | rfl
    · exact h4 g hgr
    · cases hgr; exact .inr h3
theorem Els.push {α σ : Type} {B0 : Nat} {w : World} {row : Option Nat} {OK : World → Nat → α → σ → Prop} {zs : List (α × σ)} {z : α × σ} {A B : Nat} (h : Els B0 w row OK zs) (hz : Fresh A B w (fun W N => OK W N z.1 z.2)) (h2 : B0 ≤ A) (h3 : B ≤ w.heap.size) (h4 : ∀ g, row = some g → g < A ∨ B ≤ g) : Els B0 w row OK (zs ++ [z]) := fun y hy => by
  rcases List.mem_append.1 hy with hy | hy
  · exact h y hy
  · cases List.mem_singleton.1 hy
    exact ⟨A, B, hz, h2, h3, h4⟩
theorem But.grown {g : Nat} {a w w' : World} (h : But g a w) {row : Option Nat} (hg : w.grownBy w' row) (hr : ∀ k, row = some k → a.heap.size ≤ k) : But g a w' :=
  ⟨hg.os.trans h.os, hg.tape.trans h.tape, hg.output.trans h.output, Nat.le_trans h.size hg.size, fun k hk hn => (hg.block k (Nat.lt_of_lt_of_le hk h.size) (fun e => by have := hr k e.symm; omega)).trans (h.block k hk hn)⟩
theorem Ps.grown {w w' : World} {pb tb tf tc k d : Nat} {ts : List Tok} (h : Ps w pb tb tf tc ts k d) {row : Option Nat} (hg : w.grownBy w' row) (h1 : row ≠ some pb) (h2 : row ≠ some tb) : Ps w' pb tb tf tc ts k d :=
  ⟨(hg.block pb h.lt_pb (fun e => h1 e.symm)).trans h.pr, fun i t ht => (h.tk i t ht).of_block (hg.block tb h.lt (fun e => h2 e.symm)), h.ne, Nat.lt_of_lt_of_le h.lt hg.size, h.ln⟩
theorem own_block {w w' : World} {base : Nat} {e : TypeId} {size n : Nat} {v : Value} {xs : List Value} (h : w.ownsRow base e size v n xs) (hb : ∀ g, base ≤ g → g < w.heap.size → w'.heap[g]? = w.heap[g]?) : w'.ownsRow base e size v n xs := by
  rcases h with ⟨hl, ⟨hv, h0⟩ | ⟨g, cap, cur, hv, hg, hh, h1, h2, h3, h4⟩⟩
  · exact ⟨hl, .inl ⟨hv, h0⟩⟩
  · exact ⟨hl, .inr ⟨g, cap, cur, hv, hg, (hb g hg (Array.getElem?_eq_some_iff.1 hh).1).trans hh, h1, h2, h3, h4⟩⟩
theorem own_but {w w' : World} {base g : Nat} {e : TypeId} {size n : Nat} {v : Value} {xs : List Value} (h : w.ownsRow base e size v n xs) (hb : But g w w') (hg : g < base) : w'.ownsRow base e size v n xs :=
  own_block h fun k h1 h2 => hb.block k h2 (by omega)
theorem own_bel {w w' : World} {base : Nat} {e : TypeId} {size n : Nat} {v : Value} {xs : List Value} (h : w.ownsRow base e size v n xs) (hb : Below w.heap.size w w') : w'.ownsRow base e size v n xs :=
  own_block h fun k _ h2 => hb.block k h2
/-- a row that is read: how each thing lies in it -/
def RRow {α : Type} (A : World → Nat → α → Nat → Nat → Prop) (k : Nat) : Rep (List α) := ⟨Option Addr × Nat, fun l s => .slice s.1 l.length s.2, fun W N l s => l.length ≤ s.2 ∧ RowIn N (A W N) k l s.1⟩
/-- the row told at the end: it stays wherever the blocks from B0 on are as they are -/
theorem row_fresh {α σ : Type} {A : World → Nat → α → Nat → Nat → Prop} {OK : World → Nat → α → σ → Prop} {enc : α → σ → List Value} {k : Nat} (hk : ∀ x s, (enc x s).length = k)
    (hA : ∀ (W : World) (N : Nat) (x : α) (s : σ) (b o : Nat), OK W N x s → (∀ j v, (enc x s)[j]? = some v → W.cell? ⟨b, o + j, none⟩ = some v) → A W N x b o) (up : ∀ (W : World) (N M : Nat) (x : α) (s : σ), OK W N x s → N ≤ M → OK W M x s)
    {B0 : Nat} {w : World} {v : Value} {E : TypeId} {zs : List (α × σ)} (hown : w.ownsRow B0 E k v zs.length (encs enc zs)) (hE : Els B0 w v.ownBlock OK zs) (hl : zs.length ≤ 140737488355328) :
    ∃ s : (RRow A k).σ, v = (RRow A k).val (zs.map Prod.fst) s ∧ Fresh B0 w.heap.size w (fun W N => (RRow A k).ok W N (zs.map Prod.fst) s) := by
  rcases hown with ⟨hl0, ⟨rfl, h0⟩ | ⟨g, cap, cur, rfl, hg, hh, h1, h2, h3, h4⟩⟩
  · have : zs = [] := List.eq_nil_of_length_eq_zero h0
    subst this
    exact ⟨(none, 0), rfl, fun W _ => ⟨Nat.le_refl _, Nat.zero_le _, .inl rfl⟩⟩
  · refine ⟨(some ⟨g, 0, none⟩, cap), by show Value.slice _ _ _ = .slice _ _ _; rw [List.length_map], fun W hW => ⟨by rw [List.length_map]; exact h1, by rw [List.length_map]; exact hl, .inr ⟨g, 0, rfl, (Array.getElem?_eq_some_iff.1 hh).1, ?_⟩⟩⟩
    have hgW := (hW.2 g hg (Array.getElem?_eq_some_iff.1 hh).1).trans hh
    refine Row.closeZ (w := W) (enc := enc) hk zs 0 (fun z hz o hc => ?_) (fun j u hu => ?_)
    · obtain ⟨A', B', f1, f2, f3, f4⟩ := hE z hz
      exact hA W _ z.1 z.2 g o (up W _ _ _ _ (f1 W (hW.mono f2 f3)) f3) hc
    · rw [← h4] at hu
      rw [Nat.zero_add]
      refine cell_blk hgW ?_
      rw [List.getElem?_take] at hu
      split at hu
      · rw [← Array.getElem?_toList]; exact hu
      · cases hu
theorem add_of (b o j : Nat) : (⟨b, o, none⟩ : Addr).add j = ⟨b, o + j, none⟩ := by simp [Addr.add]
/-- how far the parser is, read from memory -/
def atOf (w : World) (pb : Nat) : Nat := match w.cell? ⟨pb, 1, none⟩ with
  | some (.int _ i) => i.toNat
  | _ => 0
theorem Ps.atOf {w : World} {pb tb tf tc k d : Nat} {ts : List Tok} (h : Ps w pb tb tf tc ts k d) : atOf w pb = k := by
  unfold Go.Proofs.YtchbnkepmeelkaaGreatDoor.atOf
  rw [cell_blk h.pr (j := 1) rfl]
  rfl
/-- an append of one thing that lies in a block just laid -/
theorem own_one {w : World} {E : TypeId} {k : Nat} {cs : Array Value} (hs : cs.size = k) : (w.alloc (.cells cs E)).ownsRow w.heap.size E k (.slice (some ⟨w.heap.size, 0, none⟩) 1 1) 1 cs.toList :=
  ⟨by rw [Array.length_toList, hs, Nat.one_mul], .inr ⟨w.heap.size, 1, cs, rfl, Nat.le_refl _, heap_alloc_new w _, Nat.le_refl _, by unfold maxLen; omega, by rw [hs, Nat.one_mul], by rw [Nat.one_mul, ← hs, ← Array.length_toList, List.take_length]⟩⟩
theorem own_base {w : World} {base base' : Nat} {e : TypeId} {size n : Nat} {v : Value} {xs : List Value} (h : w.ownsRow base e size v n xs) (hb : base' ≤ base) : w.ownsRow base' e size v n xs := by
  rcases h with ⟨hl, h0 | ⟨g, cap, cur, hv, hg, hr⟩⟩
  · exact ⟨hl, .inl h0⟩
  · exact ⟨hl, .inr ⟨g, cap, cur, hv, Nat.le_trans hb hg, hr⟩⟩
/-- a plain function never leaves more than it was given -/
def Shr {α : Type} (one : List Tok → Res α) : Prop := ∀ l a r, one l = .ok a r → r.length ≤ l.length
def Shs {α : Type} (one : List Tok → Res α) : Prop := ∀ l a r, one l = .ok a r → r.length < l.length
theorem Shs.shr {α : Type} {one : List Tok → Res α} (h : Shs one) : Shr one := fun l a r e => Nat.le_of_lt (h l a r e)
theorem info_str1 : (Tryz.prog.info? 9).map (fun i => (i.zero, i.size, i.bytes)) = some (some (.string ByteArray.empty), 1, 16) := by kernel_rfl
theorem info_ex4 : (Tryz.prog.info? 39).map (fun i => (i.zero, i.size, i.bytes)) = some (some (.agg #[.int .i64 0, .int .u64 0, .string ByteArray.empty, .slice none 0 0]), 4, 56) := by kernel_rfl
theorem info_var4 : (Tryz.prog.info? 108).map (fun i => (i.zero, i.size, i.bytes)) = some (some (.agg #[.string ByteArray.empty, .int .i64 0, .int .i64 0, .bool false]), 4, 40) := by kernel_rfl
theorem info_reg4 : (Tryz.prog.info? 78).map (fun i => (i.zero, i.size, i.bytes)) = some (some (.agg #[.string ByteArray.empty, .int .i64 0, .int .i64 0, .bool false]), 4, 40) := by kernel_rfl
theorem info_fn5 : (Tryz.prog.info? 83).map (fun i => (i.zero, i.size, i.bytes)) = some (some (.agg #[.string ByteArray.empty, .slice none 0 0, .slice none 0 0, .slice none 0 0, .slice none 0 0]), 5, 112) := by kernel_rfl
theorem info_st16 : (Tryz.prog.info? 69).map (fun i => (i.zero, i.size, i.bytes)) = some (some (.agg #[.int .i64 0, .string ByteArray.empty, .slice none 0 0, .int .i64 0, .int .u64 0, .string ByteArray.empty, .slice none 0 0, .int .i64 0, .int .u64 0, .string ByteArray.empty, .slice none 0 0, .slice none 0 0, .int .u64 0, .int .u64 0, .slice none 0 0, .slice none 0 0]), 16, 248) := by kernel_rfl
end Go.Proofs.YtchbnkepmeelkaaGreatDoor
/- Rows with commas between. -/
namespace Go.Proofs.YtchbnkepmeelkaaGreatDoor
open Go.RowKit

theorem Fresh.alloc {A B : Nat} {w : World} {P : World → Nat → Prop} (h : Fresh A B w P) (hB : B ≤ w.heap.size) (o : Obj) : Fresh A B (w.alloc o) P := h.bel ((Below.refl _ _).alloc (Nat.le_refl _) o) hB
theorem tailP_more {α : Type} {one : List Tok → Res α} {f : Nat} {l : List Tok} (h : (hdT l).text = [44]) : tailP one (f + 1) l = (one l.tail).bind fun a r => (tailP one f r).bind fun as' r => .ok (a :: as') r := by
  rw [tailP, if_pos h]
theorem tailP_over {α : Type} {one : List Tok → Res α} {f : Nat} {l : List Tok} (h : (hdT l).text ≠ [44]) : tailP one (f + 1) l = .ok [] l := by
  rw [tailP, if_neg h]
theorem map_fst_snoc {α σ : Type} (zs : List (α × σ)) (z : α × σ) : (zs ++ [z]).map Prod.fst = zs.map Prod.fst ++ [z.1] := by simp

set_option maxRecDepth 100000 in
set_option maxHeartbeats 3200000 in
theorem list_strings (p : Pp) (k d : Nat) (w : World) (h : Ps w p.pb p.tb p.tf p.tc p.ts k d) (hk : k < p.ts.length) (hE : Ends p.ts) (hsm : p.ts.length ≤ 100000) (hsh : Shr (nameP)) :
    Calls Tryz.prog 155 #[.pointer (some ⟨p.pb, 0, none⟩), .func (.func 150) #[.pointer (some ⟨p.pb, 0, none⟩)] #[]] w (Post (RRow (fun W _ => StrAt W) 1) (listP (nameP) (p.ts.drop k)) p d w) := by
  obtain ⟨i0, hi, hz0, hz1, hz2⟩ := info_parts info_str1
  have hpb := h.lt_pb
  have CO := Lib.hid (fun (k : Nat) (w : World) (h : Ps w p.pb p.tb p.tf p.tc p.ts k d) (hk : k < p.ts.length) => name_p p k d w h hk hE)
  have CY := Lib.hid (fun (k : Nat) (w : World) (h : Ps w p.pb p.tb p.tf p.tc p.ts k d) (hk : k < p.ts.length) (hs : (hdT (p.ts.drop k)).text = [44]) => And.intro (take_yes [44] p k d w h hk hs) (hd_next hE hk (.inl (by rw [hs]; decide))))
  have CN := Lib.hid (fun (k : Nat) (w : World) (h : Ps w p.pb p.tb p.tf p.tc p.ts k d) (hk : k < p.ts.length) (hs : (hdT (p.ts.drop k)).text ≠ [44]) => take_no [44] p k d w h hk hs)
  have SS := Lib.hid (And.intro h hk)
  have PB := Lib.hid hpb
  have HS := Lib.hid hsh
  have HL := Lib.hid hsm
  have HTB := Lib.hid h.lt
  clear h hk hE hpb hsm hsh
  generalize hG : listP (nameP) (p.ts.drop k) = G
  unfold listP at hG
  have HG := Lib.hid hG
  clear hG
  go_enter Tryz.func155, Tryz.ntmps155
  go_wp2_with fail
  refine (CO.out k w SS.out.1 SS.out.2).mono ?_
  intro z w1 hc
  rcases hc with ⟨k1, a1, s1, hr, hkk, hp, hb, hz, hR⟩ | ⟨k1, e1, t1, hr, hp, hb, hz⟩
  rotate_left
  · subst hz
    have HN := Lib.hid (show Post (RRow (fun W _ => StrAt W) 1) G p d w (WrongIs (e1 : Int) t1) w1 from .no k1 e1 t1 (by rw [← HG.out, hr]; rfl) hp hb rfl)
    clear hr hp hb
    unfold WrongIs
    go_wp2_with fail
    exact ⟨rfl, HN.out⟩
  skip
  obtain rfl : z = .returned (.string (str a1)) := hz
  have HF1 := Lib.hid (show Fresh w.heap.size w1.heap.size w1 (fun W N => True) from hR)
  have HR1 := Lib.hid hr
  have HP1 := Lib.hid (And.intro hp hkk)
  have HB1 := Lib.hid hb
  clear hr hkk hp hb hR SS
  obtain ⟨A1, hA1⟩ : ∃ A, w1.alloc (.cells #[.string (str a1)] 9) = A := ⟨_, rfl⟩
  have hBA : Below w1.heap.size w1 A1 := by rw [← hA1]; exact (Below.refl _ _).alloc (Nat.le_refl _) _
  have HO1 := Lib.hid (show A1.ownsRow w.heap.size 9 1 (.slice (some ⟨w1.heap.size, 0, none⟩) 1 1) 1 [.string (str a1)] by rw [← hA1]; exact own_base (own_one (cs := #[.string (str a1)]) rfl) HB1.out.size)
  have HE1 := Lib.hid (show Els w.heap.size A1 (some w1.heap.size) (fun W N (x : List UInt8) (s : Unit) => True) [(a1, ())] from fun z hz => by
    cases List.mem_singleton.1 hz
    exact ⟨_, _, HF1.out.bel hBA (Nat.le_refl _), Nat.le_refl _, hBA.size, fun g hg => by cases hg; exact .inr (Nat.le_refl _)⟩)
  have HPA := Lib.hid (HP1.out.1.later hBA)
  have HBA := Lib.hid (HB1.out.trans (But.of_below hBA))
  have HA1 := Lib.hid hA1
  clear hBA hA1
  go_wp2_with fail
  try rw [HA1.out]
  clear HA1
  go_loopw [5] (fun l wr => ∃ (zs : List (List UInt8 × Unit)) (k' f : Nat), Hid (zs.length ≤ k' + 1) ∧ Hid (k' < p.ts.length) ∧ Hid ((p.ts.drop k').length < f) ∧ Hid (wr.ownsRow w.heap.size 9 1 l zs.length (encs (fun (x : List UInt8) (s : Unit) => [.string (str x)]) zs)) ∧ Hid (Els w.heap.size wr l.ownBlock (fun W N x s => True) zs) ∧ Hid (Ps wr p.pb p.tb p.tf p.tc p.ts k' d) ∧ Hid (But p.pb w wr) ∧ Hid (G = (tailP (nameP) f (p.ts.drop k')).bind fun as' r => .ok (zs.map Prod.fst ++ as') r)) (fun _ wr => p.ts.length - atOf wr p.pb)
  case atStart =>
    refine ⟨[(a1, ())], k1, (p.ts.drop k1).length + 1, Lib.hid ?_, Lib.hid HP1.out.2, Lib.hid (Nat.lt_succ_self _), HO1, HE1, HPA, HBA, Lib.hid ?_⟩
    · show 1 ≤ k1 + 1; omega
    · rw [← HG.out, HR1.out]
      rfl
  case round =>
    obtain ⟨zs, k', f, hzk, hk', hf, hown, hels, hP, hB, hGr⟩ := hrel
    obtain ⟨g, rfl⟩ : ∃ g, f = g + 1 := ⟨f - 1, by have := hf.out; omega⟩
    by_cases ht : (hdT (p.ts.drop k')).text = [44]
    · have HY := Lib.hid (CY.out k' wr hP.out hk'.out ht)
      have HGy := Lib.hid (hGr.out.trans (by rw [tailP_more ht, drop_tl]))
      clear ht
      go_wp2_with fail
      refine HY.out.1.mono ?_
      rintro z w2 ⟨rfl, hp, hb⟩
      have hbw := PB.out
      have HO2 := Lib.hid (own_but hown.out hb hbw)
      have HE2 := Lib.hid (hels.out.but hb hbw)
      have HB2 := Lib.hid (hB.out.trans hb)
      have HP2 := Lib.hid hp
      clear hp hb hbw
      go_wp2_with fail
      refine (CO.out (k' + 1) w2 HP2.out HY.out.2).mono ?_
      intro z w3 hc
      rcases hc with ⟨k3, a3, s3, hr, hkk, hp, hb, hz, hR⟩ | ⟨k3, e3, t3, hr, hp, hb, hz⟩
      rotate_left
      · subst hz
        have HN := Lib.hid (show Post (RRow (fun W _ => StrAt W) 1) G p d w (WrongIs (e3 : Int) t3) w3 from .no k3 e3 t3 (by rw [HGy.out, hr]; rfl) hp (HB2.out.trans hb) rfl)
        clear hr hp hb
        unfold WrongIs
        go_wp2_with fail
        exact ⟨rfl, HN.out⟩
      skip
      obtain rfl : z = .returned (.string (str a3)) := hz
      have hbw := PB.out
      have HF3 := Lib.hid (show Fresh w2.heap.size w3.heap.size w3 (fun W N => True) from hR)
      have HO3 := Lib.hid (own_but HO2.out hb hbw)
      have HE3 := Lib.hid (HE2.out.but hb hbw)
      have HB3 := Lib.hid (HB2.out.trans hb)
      have HK3 := Lib.hid (show k' + 1 ≤ k3 by
        have h1 := HS.out _ _ _ hr
        rw [List.length_drop, List.length_drop] at h1
        have := HY.out.2
        omega)
      have HGz := Lib.hid (show G = (tailP (nameP) g (p.ts.drop k3)).bind fun as' r => .ok ((zs ++ [(a3, ())]).map Prod.fst ++ as') r by
        rw [HGy.out, hr, map_fst_snoc, Res.bind_ok, Res.bind_assoc]
        simp only [Res.bind_ok, List.append_assoc, List.singleton_append])
      have HP3 := Lib.hid (And.intro hp hkk)
      have HU3 := Lib.hid (show ∀ j, u5.ownBlock = some j → j < w2.heap.size from fun j hj => (HO2.out.lt j hj).2)
      clear hr hkk hp hb hR hbw
      obtain ⟨A3, hA3⟩ : ∃ A, w3.alloc (.cells #[.string (str a3)] 9) = A := ⟨_, rfl⟩
      have hBA : Below w3.heap.size w3 A3 := by rw [← hA3]; exact (Below.refl _ _).alloc (Nat.le_refl _) _
      have hcA : A3.heap[w3.heap.size]? = some (.cells #[.string (str a3)] 9 (0, 0)) := by rw [← hA3]; exact heap_alloc_new w3 _
      have HOA := Lib.hid (own_bel HO3.out hBA)
      have HEA := Lib.hid ((HE3.out.bel hBA).push (z := (a3, ())) (HF3.out.bel hBA (Nat.le_refl _)) HB2.out.size hBA.size (fun j hj => .inl (HU3.out j hj)))
      have HPA3 := Lib.hid (HP3.out.1.later hBA)
      have HBA3 := Lib.hid (HB3.out.trans (But.of_below hBA))
      have HCA := Lib.hid hcA
      have HA3 := Lib.hid hA3
      have hbase : w.heap.size ≤ A3.heap.size := HBA3.out.size
      have hln : zs.length + 1 ≤ 100001 := by have h1 := hzk.out; have h2 := hk'.out; have h3 := HL.out; omega
      clear hBA hcA hA3
      go_wp2_with (at_builtin; (try rw [HA3.out]); refine wpList_append_own_at _ rfl _ _ 67 rfl w.heap.size 9 i0 (.string ByteArray.empty) 1 16 Tryz.underlying67 hi hz0 hz1 hz2 rfl (by decide) _ _ _ rfl HOA.out ⟨w3.heap.size, 0, none⟩ 1 1 [.string (str a3)] rfl rfl ?c1 ?c2 ?c3 ?c4 hbase ?_)
      case c1 =>
        intro j u hj
        have := cell_blk HCA.out (j := j) (v := u) (by rw [← Array.getElem?_toList]; exact hj)
        rw [add_of, Nat.zero_add]
        exact this
      case c2 =>
        intro u hu
        simp only [List.mem_cons, List.not_mem_nil, or_false] at hu
        subst hu; rfl
      case c3 => unfold maxLen; omega
      case c4 => omega
      intro v' w4 hown4 hgrow _ hat
      have HO4 := Lib.hid (show w4.ownsRow w.heap.size 9 1 v' (zs ++ [(a3, ())]).length (encs (fun (x : List UInt8) (s : Unit) => [.string (str x)]) (zs ++ [(a3, ())])) by rw [List.length_append, encs_app]; exact hown4)
      have HE4 := Lib.hid (HEA.out.grown hgrow hat)
      have HB4 := Lib.hid (HBA3.out.grown hgrow (fun j hj => (HOA.out.lt j hj).1))
      have HP4 := Lib.hid (HPA3.out.grown hgrow (fun e => by have h1 := (HOA.out.lt _ e).1; have h2 := PB.out; omega) (fun e => by have h1 := (HOA.out.lt _ e).1; have h2 := HTB.out; omega))
      clear hown4 hgrow hat
      go_wp2_with fail
      go_roundw
      case rel =>
        refine ⟨zs ++ [(a3, ())], k3, g, Lib.hid ?_, Lib.hid HP3.out.2, Lib.hid ?_, HO4, HE4, HP4, HB4, HGz⟩
        · have h1 := hzk.out; have h2 := HK3.out; rw [List.length_append, List.length_singleton]; omega
        · have h1 := hf.out; have h2 := HK3.out; have h3 := HY.out.2; rw [List.length_drop] at h1 ⊢; omega
      case measure =>
        have h1 := HP4.out.atOf
        have h2 := hP.out.atOf
        have h3 := HK3.out
        have h4 := HP3.out.2
        rw [h1, h2]
        omega
    · have HY := Lib.hid (CN.out k' wr hP.out hk'.out ht)
      have HGy := Lib.hid (hGr.out.trans (by rw [tailP_over ht, Res.bind_ok]))
      clear ht
      go_wp2_with fail
      refine HY.out.mono ?_
      rintro z w2 ⟨rfl, hp, hb⟩
      have hbw := PB.out
      obtain ⟨s, hv, hfr⟩ := row_fresh (A := (fun W _ => StrAt W)) (k := 1) (OK := fun W N (x : List UInt8) (s : Unit) => True) (enc := fun (x : List UInt8) (s : Unit) => [.string (str x)]) (fun _ _ => rfl) (fun W N x s b o hok hc => hc 0 _ rfl) (fun W N M x s hok hM => trivial) (own_but hown.out hb hbw) (hels.out.but hb hbw) (by have h1 := hzk.out; have h2 := hk'.out; have h3 := HL.out; omega)
      have HQ := Lib.hid (And.intro hv (And.intro hfr (And.intro hp (hB.out.trans hb))))
      clear hp hb hbw hv hfr
      go_wp2_with fail
      go_ret
      exact .ok k' (zs.map Prod.fst) s (HGy.out.trans (by rw [List.append_nil])) hk'.out HQ.out.2.2.1 HQ.out.2.2.2 (congrArg Ending.returned HQ.out.1) HQ.out.2.1

set_option maxRecDepth 100000 in
set_option maxHeartbeats 3200000 in
theorem list_exprs (n : Nat) (p : Pp) (k d : Nat) (w : World) (h : Ps w p.pb p.tb p.tf p.tc p.ts k d) (hk : k < p.ts.length) (hE : Ends p.ts) (hsm : p.ts.length ≤ 100000) (hX : ExprC p n d) (hsh : Shr (exprP n)) :
    Calls Tryz.prog 251 #[.pointer (some ⟨p.pb, 0, none⟩), .func (.func 100) #[.pointer (some ⟨p.pb, 0, none⟩)] #[]] w (Post (RRow (fun W N => Ex.At W N) 4) (listP (exprP n) (p.ts.drop k)) p d w) := by
  obtain ⟨i0, hi, hz0, hz1, hz2⟩ := info_parts info_ex4
  have hpb := h.lt_pb
  have CO := Lib.hid (fun (k : Nat) (w : World) (h : Ps w p.pb p.tb p.tf p.tc p.ts k d) (hk : k < p.ts.length) => hX k w h hk)
  have CY := Lib.hid (fun (k : Nat) (w : World) (h : Ps w p.pb p.tb p.tf p.tc p.ts k d) (hk : k < p.ts.length) (hs : (hdT (p.ts.drop k)).text = [44]) => And.intro (take_yes [44] p k d w h hk hs) (hd_next hE hk (.inl (by rw [hs]; decide))))
  have CN := Lib.hid (fun (k : Nat) (w : World) (h : Ps w p.pb p.tb p.tf p.tc p.ts k d) (hk : k < p.ts.length) (hs : (hdT (p.ts.drop k)).text ≠ [44]) => take_no [44] p k d w h hk hs)
  have SS := Lib.hid (And.intro h hk)
  have PB := Lib.hid hpb
  have HS := Lib.hid hsh
  have HL := Lib.hid hsm
  have HTB := Lib.hid h.lt
  clear h hk hE hpb hsm hsh
  generalize hG : listP (exprP n) (p.ts.drop k) = G
  unfold listP at hG
  have HG := Lib.hid hG
  clear hG
  go_enter Tryz.func251, Tryz.ntmps251
  go_wp2_with fail
  refine (CO.out k w SS.out.1 SS.out.2).mono ?_
  intro z w1 hc
  rcases hc with ⟨k1, a1, s1, hr, hkk, hp, hb, hz, hR⟩ | ⟨k1, e1, t1, hr, hp, hb, hz⟩
  rotate_left
  · subst hz
    have HN := Lib.hid (show Post (RRow (fun W N => Ex.At W N) 4) G p d w (WrongIs (e1 : Int) t1) w1 from .no k1 e1 t1 (by rw [← HG.out, hr]; rfl) hp hb rfl)
    clear hr hp hb
    unfold WrongIs
    go_wp2_with fail
    exact ⟨rfl, HN.out⟩
  obtain ⟨qs1, cs1⟩ := s1
  obtain rfl : z = .returned (.agg #[.int .i64 a1.op, .int .u64 (a1.word : Int), .string (str a1.name), .slice qs1 a1.args.len cs1]) := hz
  have HF1 := Lib.hid (show Fresh w.heap.size w1.heap.size w1 (fun W N => a1.Ok W N qs1) from hR)
  have HR1 := Lib.hid hr
  have HP1 := Lib.hid (And.intro hp hkk)
  have HB1 := Lib.hid hb
  clear hr hkk hp hb hR SS
  obtain ⟨A1, hA1⟩ : ∃ A, w1.alloc (.cells #[.int .i64 a1.op, .int .u64 (a1.word : Int), .string (str a1.name), .slice qs1 a1.args.len cs1] 39) = A := ⟨_, rfl⟩
  have hBA : Below w1.heap.size w1 A1 := by rw [← hA1]; exact (Below.refl _ _).alloc (Nat.le_refl _) _
  have HO1 := Lib.hid (show A1.ownsRow w.heap.size 39 4 (.slice (some ⟨w1.heap.size, 0, none⟩) 1 1) 1 [.int .i64 a1.op, .int .u64 (a1.word : Int), .string (str a1.name), .slice qs1 a1.args.len cs1] by rw [← hA1]; exact own_base (own_one (cs := #[.int .i64 a1.op, .int .u64 (a1.word : Int), .string (str a1.name), .slice qs1 a1.args.len cs1]) rfl) HB1.out.size)
  have HE1 := Lib.hid (show Els w.heap.size A1 (some w1.heap.size) (fun W N (x : Ex) (s : (Option Addr × Nat)) => x.Ok W N s.1) [(a1, (qs1, cs1))] from fun z hz => by
    cases List.mem_singleton.1 hz
    exact ⟨_, _, HF1.out.bel hBA (Nat.le_refl _), Nat.le_refl _, hBA.size, fun g hg => by cases hg; exact .inr (Nat.le_refl _)⟩)
  have HPA := Lib.hid (HP1.out.1.later hBA)
  have HBA := Lib.hid (HB1.out.trans (But.of_below hBA))
  have HA1 := Lib.hid hA1
  clear hBA hA1
  go_wp2_with fail
  try rw [HA1.out]
  clear HA1
  go_loopw [5] (fun l wr => ∃ (zs : List (Ex × (Option Addr × Nat))) (k' f : Nat), Hid (zs.length ≤ k' + 1) ∧ Hid (k' < p.ts.length) ∧ Hid ((p.ts.drop k').length < f) ∧ Hid (wr.ownsRow w.heap.size 39 4 l zs.length (encs (fun (x : Ex) (s : (Option Addr × Nat)) => [.int .i64 x.op, .int .u64 (x.word : Int), .string (str x.name), .slice s.1 x.args.len s.2]) zs)) ∧ Hid (Els w.heap.size wr l.ownBlock (fun W N x s => x.Ok W N s.1) zs) ∧ Hid (Ps wr p.pb p.tb p.tf p.tc p.ts k' d) ∧ Hid (But p.pb w wr) ∧ Hid (G = (tailP (exprP n) f (p.ts.drop k')).bind fun as' r => .ok (zs.map Prod.fst ++ as') r)) (fun _ wr => p.ts.length - atOf wr p.pb)
  case atStart =>
    refine ⟨[(a1, (qs1, cs1))], k1, (p.ts.drop k1).length + 1, Lib.hid ?_, Lib.hid HP1.out.2, Lib.hid (Nat.lt_succ_self _), HO1, HE1, HPA, HBA, Lib.hid ?_⟩
    · show 1 ≤ k1 + 1; omega
    · rw [← HG.out, HR1.out]
      rfl
  case round =>
    obtain ⟨zs, k', f, hzk, hk', hf, hown, hels, hP, hB, hGr⟩ := hrel
    obtain ⟨g, rfl⟩ : ∃ g, f = g + 1 := ⟨f - 1, by have := hf.out; omega⟩
    by_cases ht : (hdT (p.ts.drop k')).text = [44]
    · have HY := Lib.hid (CY.out k' wr hP.out hk'.out ht)
      have HGy := Lib.hid (hGr.out.trans (by rw [tailP_more ht, drop_tl]))
      clear ht
      go_wp2_with fail
      refine HY.out.1.mono ?_
      rintro z w2 ⟨rfl, hp, hb⟩
      have hbw := PB.out
      have HO2 := Lib.hid (own_but hown.out hb hbw)
      have HE2 := Lib.hid (hels.out.but hb hbw)
      have HB2 := Lib.hid (hB.out.trans hb)
      have HP2 := Lib.hid hp
      clear hp hb hbw
      go_wp2_with fail
      refine (CO.out (k' + 1) w2 HP2.out HY.out.2).mono ?_
      intro z w3 hc
      rcases hc with ⟨k3, a3, s3, hr, hkk, hp, hb, hz, hR⟩ | ⟨k3, e3, t3, hr, hp, hb, hz⟩
      rotate_left
      · subst hz
        have HN := Lib.hid (show Post (RRow (fun W N => Ex.At W N) 4) G p d w (WrongIs (e3 : Int) t3) w3 from .no k3 e3 t3 (by rw [HGy.out, hr]; rfl) hp (HB2.out.trans hb) rfl)
        clear hr hp hb
        unfold WrongIs
        go_wp2_with fail
        exact ⟨rfl, HN.out⟩
      obtain ⟨qs3, cs3⟩ := s3
      obtain rfl : z = .returned (.agg #[.int .i64 a3.op, .int .u64 (a3.word : Int), .string (str a3.name), .slice qs3 a3.args.len cs3]) := hz
      have hbw := PB.out
      have HF3 := Lib.hid (show Fresh w2.heap.size w3.heap.size w3 (fun W N => a3.Ok W N qs3) from hR)
      have HO3 := Lib.hid (own_but HO2.out hb hbw)
      have HE3 := Lib.hid (HE2.out.but hb hbw)
      have HB3 := Lib.hid (HB2.out.trans hb)
      have HK3 := Lib.hid (show k' + 1 ≤ k3 by
        have h1 := HS.out _ _ _ hr
        rw [List.length_drop, List.length_drop] at h1
        have := HY.out.2
        omega)
      have HGz := Lib.hid (show G = (tailP (exprP n) g (p.ts.drop k3)).bind fun as' r => .ok ((zs ++ [(a3, (qs3, cs3))]).map Prod.fst ++ as') r by
        rw [HGy.out, hr, map_fst_snoc, Res.bind_ok, Res.bind_assoc]
        simp only [Res.bind_ok, List.append_assoc, List.singleton_append])
      have HP3 := Lib.hid (And.intro hp hkk)
      have HU3 := Lib.hid (show ∀ j, u5.ownBlock = some j → j < w2.heap.size from fun j hj => (HO2.out.lt j hj).2)
      clear hr hkk hp hb hR hbw
      obtain ⟨A3, hA3⟩ : ∃ A, w3.alloc (.cells #[.int .i64 a3.op, .int .u64 (a3.word : Int), .string (str a3.name), .slice qs3 a3.args.len cs3] 39) = A := ⟨_, rfl⟩
      have hBA : Below w3.heap.size w3 A3 := by rw [← hA3]; exact (Below.refl _ _).alloc (Nat.le_refl _) _
      have hcA : A3.heap[w3.heap.size]? = some (.cells #[.int .i64 a3.op, .int .u64 (a3.word : Int), .string (str a3.name), .slice qs3 a3.args.len cs3] 39 (0, 0)) := by rw [← hA3]; exact heap_alloc_new w3 _
      have HOA := Lib.hid (own_bel HO3.out hBA)
      have HEA := Lib.hid ((HE3.out.bel hBA).push (z := (a3, (qs3, cs3))) (HF3.out.bel hBA (Nat.le_refl _)) HB2.out.size hBA.size (fun j hj => .inl (HU3.out j hj)))
      have HPA3 := Lib.hid (HP3.out.1.later hBA)
      have HBA3 := Lib.hid (HB3.out.trans (But.of_below hBA))
      have HCA := Lib.hid hcA
      have HA3 := Lib.hid hA3
      have hbase : w.heap.size ≤ A3.heap.size := HBA3.out.size
      have hln : zs.length + 1 ≤ 100001 := by have h1 := hzk.out; have h2 := hk'.out; have h3 := HL.out; omega
      clear hBA hcA hA3
      go_wp2_with (at_builtin; (try rw [HA3.out]); refine wpList_append_own_at _ rfl _ _ 37 rfl w.heap.size 39 i0 (.agg #[.int .i64 0, .int .u64 0, .string ByteArray.empty, .slice none 0 0]) 4 56 Tryz.underlying37 hi hz0 hz1 hz2 rfl (by decide) _ _ _ rfl HOA.out ⟨w3.heap.size, 0, none⟩ 1 1 [.int .i64 a3.op, .int .u64 (a3.word : Int), .string (str a3.name), .slice qs3 a3.args.len cs3] rfl rfl ?c1 ?c2 ?c3 ?c4 hbase ?_)
      case c1 =>
        intro j u hj
        have := cell_blk HCA.out (j := j) (v := u) (by rw [← Array.getElem?_toList]; exact hj)
        rw [add_of, Nat.zero_add]
        exact this
      case c2 =>
        intro u hu
        simp only [List.mem_cons, List.not_mem_nil, or_false] at hu
        rcases hu with rfl | rfl | rfl | rfl <;> rfl
      case c3 => unfold maxLen; omega
      case c4 => omega
      intro v' w4 hown4 hgrow _ hat
      have HO4 := Lib.hid (show w4.ownsRow w.heap.size 39 4 v' (zs ++ [(a3, (qs3, cs3))]).length (encs (fun (x : Ex) (s : (Option Addr × Nat)) => [.int .i64 x.op, .int .u64 (x.word : Int), .string (str x.name), .slice s.1 x.args.len s.2]) (zs ++ [(a3, (qs3, cs3))])) by rw [List.length_append, encs_app]; exact hown4)
      have HE4 := Lib.hid (HEA.out.grown hgrow hat)
      have HB4 := Lib.hid (HBA3.out.grown hgrow (fun j hj => (HOA.out.lt j hj).1))
      have HP4 := Lib.hid (HPA3.out.grown hgrow (fun e => by have h1 := (HOA.out.lt _ e).1; have h2 := PB.out; omega) (fun e => by have h1 := (HOA.out.lt _ e).1; have h2 := HTB.out; omega))
      clear hown4 hgrow hat
      go_wp2_with fail
      go_roundw
      case rel =>
        refine ⟨zs ++ [(a3, (qs3, cs3))], k3, g, Lib.hid ?_, Lib.hid HP3.out.2, Lib.hid ?_, HO4, HE4, HP4, HB4, HGz⟩
        · have h1 := hzk.out; have h2 := HK3.out; rw [List.length_append, List.length_singleton]; omega
        · have h1 := hf.out; have h2 := HK3.out; have h3 := HY.out.2; rw [List.length_drop] at h1 ⊢; omega
      case measure =>
        have h1 := HP4.out.atOf
        have h2 := hP.out.atOf
        have h3 := HK3.out
        have h4 := HP3.out.2
        rw [h1, h2]
        omega
    · have HY := Lib.hid (CN.out k' wr hP.out hk'.out ht)
      have HGy := Lib.hid (hGr.out.trans (by rw [tailP_over ht, Res.bind_ok]))
      clear ht
      go_wp2_with fail
      refine HY.out.mono ?_
      rintro z w2 ⟨rfl, hp, hb⟩
      have hbw := PB.out
      obtain ⟨s, hv, hfr⟩ := row_fresh (A := (fun W N => Ex.At W N)) (k := 4) (OK := fun W N (x : Ex) (s : (Option Addr × Nat)) => x.Ok W N s.1) (enc := fun (x : Ex) (s : (Option Addr × Nat)) => [.int .i64 x.op, .int .u64 (x.word : Int), .string (str x.name), .slice s.1 x.args.len s.2]) (fun _ _ => rfl) (fun W N x s b o hok hc => Ex.At.of (hc 0 _ rfl) (hc 1 _ rfl) (hc 2 _ rfl) (hc 3 _ rfl) hok) (fun W N M x s hok hM => hok.up hM) (own_but hown.out hb hbw) (hels.out.but hb hbw) (by have h1 := hzk.out; have h2 := hk'.out; have h3 := HL.out; omega)
      have HQ := Lib.hid (And.intro hv (And.intro hfr (And.intro hp (hB.out.trans hb))))
      clear hp hb hbw hv hfr
      go_wp2_with fail
      go_ret
      exact .ok k' (zs.map Prod.fst) s (HGy.out.trans (by rw [List.append_nil])) hk'.out HQ.out.2.2.1 HQ.out.2.2.2 (congrArg Ending.returned HQ.out.1) HQ.out.2.1
end Go.Proofs.YtchbnkepmeelkaaGreatDoor
/- A whole struct loaded, and laid into a block of its own, in one step. -/
namespace Go.Proofs.YtchbnkepmeelkaaGreatDoor
open Go.RowKit

theorem setCells_new (w : World) (t : TypeId) : ∀ (vs pre suf : List Value), suf.length = vs.length →
    (w.alloc (.cells (pre ++ suf).toArray t)).setCells w.heap.size pre.length vs = w.alloc (.cells (pre ++ vs).toArray t)
  | [], pre, suf, h => by
    have : suf = [] := List.eq_nil_of_length_eq_zero h
    subst this; rfl
  | v :: vs, pre, [], h => by simp at h
  | v :: vs, pre, x :: suf, h => by
    rw [World.setCells]
    have h1 : (w.alloc (.cells (pre ++ x :: suf).toArray t)).setCell ⟨w.heap.size, pre.length, none⟩ v = w.alloc (.cells ((pre ++ [v]) ++ suf).toArray t) := by
      rw [World.setCell_alloc_at _ _ _ _ _ rfl]
      congr 2
      simp
    rw [h1]
    have := setCells_new w t vs (pre ++ [v]) suf (by simpa using h)
    simp only [List.length_append, List.length_cons, List.length_nil] at this
    rw [this]
    simp
theorem wpl_load {P : Program} {ops : Array Oper} {rest : List Oper} {op : Oper} {a : Act} {w : World} {Q : Exit → Act → World → Prop} (hgd : op.guard = none) (ty : TypeId) (x : Operand) (ho : op.op = .load ty x)
    (b o : Nat) (hx : a.eval x = .pointer (some ⟨b, o, none⟩)) (A : Array Value) (d : TypeDesc) (hc : w.rangeAt b o A.toList)
    (hu : P.underlying ty = some d) (hd : d.isRow = true) (hi : (P.info? ty).map (·.size) = some A.size)
    (h : wpList P ops Q rest (a.put op.dst (.agg A)) w) : wpList P ops Q (op :: rest) a w :=
  wpList_load_mid hgd ty x ho b o hx A.toList d hc hu hd (by rw [hi]; simp) (by simpa using h)
theorem wpl_store_new {P : Program} {ops : Array Oper} {rest : List Oper} {op : Oper} {a : Act} {w : World} {Q : Exit → Act → World → Prop} (hgd : op.guard = none) (ty : TypeId) (x y : Operand) (ho : op.op = .store ty x y)
    (Z A : Array Value) (t : TypeId) (hx : a.eval x = .pointer (some ⟨w.heap.size, 0, none⟩)) (hy : a.eval y = .agg A) (hZ : Z.size = A.size)
    (hi : (P.info? ty).map (·.size) = some A.size) (h1 : A.all (·.oneCell') = true)
    (h : wpList P ops Q rest (a.put op.dst undef) (w.alloc (.cells A t))) : wpList P ops Q (op :: rest) a (w.alloc (.cells Z t)) := by
  refine wpList_store_mid hgd ty x y ho w.heap.size 0 A hx hy ?_ hi h1 ?_
  · intro j hj
    refine ⟨?_, by simp [go_sem]⟩
    rw [Nat.zero_add, show (w.alloc (.cells Z t)).cell? ⟨w.heap.size, j, none⟩ = Z[j]? by simp [go_sem]]
    rw [Array.getElem?_eq_getElem (by omega)]; rfl
  · have := setCells_new w t A.toList [] Z.toList (by simp [hZ])
    simp only [List.nil_append, List.length_nil, Array.toArray_toList] at this
    rw [this]
    exact h
end Go.Proofs.YtchbnkepmeelkaaGreatDoor
/- Whole structs stored; statements as values. -/
namespace Go.Proofs.YtchbnkepmeelkaaGreatDoor
open Go.RowKit

/-- cells written into a row -/
def putA (cur : Array Value) (o : Nat) (vs : Array Value) : Array Value := (cur.toList.take o ++ vs.toList ++ cur.toList.drop (o + vs.size)).toArray
theorem putA_all {cur vs : Array Value} (h : vs.size = cur.size) : putA cur 0 vs = vs := by
  unfold putA
  rw [List.take_zero, List.nil_append, Nat.zero_add, h, ← Array.length_toList, List.drop_length, List.append_nil]
theorem but_row (w : World) (g : Nat) (cs : Array Value) : But g w (w.setRow g cs) :=
  ⟨rfl, rfl, rfl, by simp [World.setRow], fun k _ hk => setRow_other w g k _ (fun e => hk (by omega))⟩
/-- a store into a block of one's own: what lies there behind it, all else as it was -/
theorem wpl_put {P : Program} {ops : Array Oper} {rest : List Oper} {op : Oper} {a : Act} {w : World} {Q : Exit → Act → World → Prop} (hgd : op.guard = none) (ty : TypeId) (x y : Operand) (ho : op.op = .store ty x y) (hd : op.dst = none)
    (g o : Nat) (v : Value) (hx : a.eval x = .pointer (some ⟨g, o, none⟩)) (hy : a.eval y = v) (cur : Array Value) (t : TypeId) (hg : w.heap[g]? = some (.cells cur t (0, 0)))
    (hl : o + v.cells.size ≤ cur.size) (hi : (P.info? ty).map (·.size) = some v.cells.size) (h1 : v.cells.toList.all (·.oneCell') = true)
    (h : ∀ w', w'.heap[g]? = some (.cells (putA cur o v.cells) t (0, 0)) → But g w w' → w'.heap.size = w.heap.size → wpList P ops Q rest a w') : wpList P ops Q (op :: rest) a w :=
  wpList_plain hgd fun _ hK => by
    have hs : (storeVar ty ⟨g, o, none⟩ v).run P w = .ok () (w.setRow g (putA cur o v.cells)) := by
      have := run_storeCells_at (P := P) g o t v.cells.toList 0 cur w hg (by simp; omega) (fun u hu => (List.all_eq_true.1 h1) u hu)
      cases hq : P.info? ty with
      | none => simp [hq] at hi
      | some i =>
        have hz : v.cells.size = i.size := by simp [hq] at hi; omega
        simp only [Nat.add_zero, Array.length_toList] at this
        simp [storeVar, sizeOf, typeInfo, hq, hz, this, putA]
    unfold Oper.wp execOp
    simp only [ho, hx, hy, Instr.storeAt, Instr.sureAddr, Sem.run_bind, Sem.run_pure, Result.andThen_ok, hs]
    refine hK _ _ ?_
    rw [hd]
    exact h _ (setRow_heap w g _ _ t _ hg) (but_row w g _) (by simp [World.setRow])
theorem range_block {w : World} {g : Nat} {A : Array Value} {t : TypeId} {fz : Nat × Nat} (h : w.heap[g]? = some (.cells A t fz)) : w.rangeAt g 0 A.toList := by
  intro j v hv
  rw [Nat.zero_add]
  rw [← Array.getElem?_toList] at *
  simp [World.cell?, h, ← Array.getElem?_toList, hv]
theorem infoSt : (Tryz.prog.info? 69).map (·.size) = some 16 := by kernel_rfl
theorem infoFn : (Tryz.prog.info? 83).map (·.size) = some 5 := by kernel_rfl
def RStmt : Rep St := ⟨StP, fun x s => x.val s, fun W N x s => x.Ok W N s⟩
/-- a body that is read -/
def RBody : Rep Sts := ⟨Option Addr × Nat, fun l s => .slice s.1 l.len s.2, fun W N l s => l.In W N s.1⟩
def StmtC (p : Pp) (n d : Nat) : Prop := ∀ (k : Nat) (w : World), Ps w p.pb p.tb p.tf p.tc p.ts k d → k < p.ts.length → Calls Tryz.prog 105 #[.pointer (some ⟨p.pb, 0, none⟩)] w (Post RStmt (stmtP n (p.ts.drop k)) p d w)
def BlockC (p : Pp) (n d : Nat) : Prop := ∀ (k : Nat) (w : World), Ps w p.pb p.tb p.tf p.tc p.ts k d → k < p.ts.length → Calls Tryz.prog 228 #[.pointer (some ⟨p.pb, 0, none⟩)] w (Post RBody (blockP (stmtP n) (p.ts.drop k)) p d w)
theorem Sts.In.up {w : World} {l : Sts} {p : Option Addr} {N M : Nat} (h : l.In w N p) (hM : N ≤ M) : l.In w M p := h.later (Below.refl N w) hM
theorem Exs.In.up {w : World} {l : Exs} {p : Option Addr} {N M : Nat} (h : l.In w N p) (hM : N ≤ M) : l.In w M p := h.later (Below.refl N w) hM
theorem St.Ok.up {w : World} {x : St} {s : StP} {N M : Nat} (h : x.Ok w N s) (hM : N ≤ M) : x.Ok w M s := h.later (Below.refl N w) hM
theorem exsOf_len : ∀ l : List Ex, (exsOf l).len = l.length
  | [] => rfl
  | x :: r => by simp only [exsOf, Exs.len, List.length_cons, exsOf_len r]
theorem stsOf_len : ∀ l : List St, (stsOf l).len = l.length
  | [] => rfl
  | x :: r => by simp only [stsOf, Sts.len, List.length_cons, stsOf_len r]
theorem exsOf_at {W : World} {N b : Nat} : ∀ (l : List Ex) (o : Nat), Row (Ex.At W N) 4 l b o → (exsOf l).At W N b o
  | [], _, _ => trivial
  | _ :: r, o, h => ⟨h.1, exsOf_at r (o + 4) h.2⟩
theorem stsOf_at {W : World} {N b : Nat} : ∀ (l : List St) (o : Nat), Row (St.At W N) 16 l b o → (stsOf l).At W N b o
  | [], _, _ => trivial
  | _ :: r, o, h => ⟨h.1, stsOf_at r (o + 16) h.2⟩
theorem exs_in {W : World} {N : Nat} {l : List Ex} {q : Option Addr} (h : RowIn N (Ex.At W N) 4 l q) : (exsOf l).In W N q := by
  unfold Exs.In
  rw [exsOf_len]
  exact Sl.imp h (Nat.le_refl _) fun b o _ ha => exsOf_at l o ha
theorem sts_in {W : World} {N : Nat} {l : List St} {q : Option Addr} (h : RowIn N (St.At W N) 16 l q) : (stsOf l).In W N q := by
  unfold Sts.In
  rw [stsOf_len]
  exact Sl.imp h (Nat.le_refl _) fun b o _ ha => stsOf_at l o ha
theorem St.At.of {W : World} {N b o : Nat} {x : St} {s : StP} (hc : ∀ j v, (x.cells s)[j]? = some v → W.cell? ⟨b, o + j, none⟩ = some v) (h : x.Ok W N s) : x.At W N b o := by
  obtain ⟨kd, nm, ns, e, a, as', lo, hi, bd, el⟩ := x
  obtain ⟨h1, h2, h3, h4, h5, h6, h7, h8⟩ := h
  refine ⟨⟨hc 0 _ rfl, hc 1 _ rfl, hc 12 _ rfl, hc 13 _ rfl, h7, h8⟩, ⟨_, _, hc 2 _ rfl, h1⟩, Ex.At.of (hc 3 _ rfl) (hc 4 _ rfl) (hc 5 _ rfl) (hc 6 _ rfl) h2, Ex.At.of (hc 7 _ rfl) (hc 8 _ rfl) (hc 9 _ rfl) (hc 10 _ rfl) h3, ⟨_, _, hc 11 _ rfl, h4⟩, ⟨_, _, hc 14 _ rfl, h5⟩, ⟨_, _, hc 15 _ rfl, h6⟩⟩
end Go.Proofs.YtchbnkepmeelkaaGreatDoor
