/- RE, S1 as one. -/
import Derived.Test.YtcadeeldogknmaaRC
import Derived.Test.YtcadeeldogknmaaC1
import Derived.Test.YtcadeeldogknmaaZS
/- Rewriting the chapter's third row. -/
namespace Go.Proofs.Ytcadeeldogknmaa
open Go.RowKit

def liB : Lf := .node 2 [] false (.sub .nil .nil) .nil

theorem caught_B (n m N ct cl : Nat) (p q : Option Addr) (w3 : World) (hT : tfB.In w3 N p) (hL : liB.In w3 N q) (hN : N ≤ w3.heap.size) (hm : w3.heap[m]? = some (fmap deedT))
    (t0 : w3.cell? ⟨n, 0, none⟩ = some (.slice p 1 ct)) (l0 : w3.cell? ⟨n + 1, 0, none⟩ = some (.slice q 1 cl)) (b0 : w3.cell? ⟨n + 1 + 1, 0, none⟩ = some (.bool false)) :
    Calls Try.prog 22 #[.func (Fn.func 23) #[] #[.pointer (some ⟨w3.heap.size, 0, none⟩), .pointer (some ⟨n, 0, none⟩), .pointer (some ⟨n + 1, 0, none⟩), .pointer (some ⟨n + 1 + 1, 0, none⟩), .pointer (some ⟨w3.heap.size + 1, 0, none⟩)]] ((w3.alloc (Obj.cells #[.int .u64 0, .map (some m), .int .i64 0] 64)).alloc (Obj.cells #[.slice none 0 0] 23)) fun e w' =>
      e = .returned (.int .i64 2) ∧ Below w3.heap.size w3 w' := by
  obtain ⟨_, hl0 | ⟨bl, ol, rfl, hbl, ⟨g0, _, g2, _, _⟩⟩⟩ := hL
  · simp [liB, Lf.len] at hl0
  have hB : Below w3.heap.size w3 (((w3.alloc (Obj.cells #[.int .u64 0, .map (some m), .int .i64 0] 64)).alloc (Obj.cells #[.slice none 0 0] 23)).alloc (.cells #[.int .i64 0] 28)) := (((Below.refl _ w3).alloc (Nat.le_refl _) _).alloc (by simp) _).alloc (by simp; omega) _
  have hsz : ((w3.alloc (Obj.cells #[.int .u64 0, .map (some m), .int .i64 0] 64)).alloc (Obj.cells #[.slice none 0 0] 23)).heap.size = w3.heap.size + 2 := by simp
  have hml : m < w3.heap.size := (Array.getElem?_eq_some_iff.1 hm).1
  have k : ∀ b o v, w3.cell? ⟨b, o, none⟩ = some v → (((w3.alloc (Obj.cells #[.int .u64 0, .map (some m), .int .i64 0] 64)).alloc (Obj.cells #[.slice none 0 0] 23)).alloc (.cells #[.int .i64 0] 28)).cell? ⟨b, o, none⟩ = some v := fun b o v h => (hB.cell (World.block_lt_of_cell? _ _ h)).trans h
  have nl : ∀ b o v, w3.cell? ⟨b, o, none⟩ = some v → b ≠ w3.heap.size := fun b o v h => Nat.ne_of_lt (World.block_lt_of_cell? _ _ h)
  have hdo := rewrite1_B w3.heap.size m N n (n + 1) (n + 1 + 1) (w3.heap.size + 1) bl ol cl ct p 0 (((w3.alloc (Obj.cells #[.int .u64 0, .map (some m), .int .i64 0] 64)).alloc (Obj.cells #[.slice none 0 0] 23)).alloc (.cells #[.int .i64 0] 28)) ⟨by simp [go_sem], by simp [go_sem], by simp [go_sem], by simp [go_sem]⟩ ((hB.block m hml).trans hm) hN
    (k _ _ _ t0) (k _ _ _ l0) (k _ _ _ b0) (by simp [go_sem]) (by simp [go_sem]) (by omega) (nl _ _ _ l0) (nl _ _ _ b0) (Tf.In_later hT hB hN) (k _ _ _ g0) (k _ _ _ g2)
  have HC := caught_rewrite _ ((w3.alloc (Obj.cells #[.int .u64 0, .map (some m), .int .i64 0] 64)).alloc (Obj.cells #[.slice none 0 0] 23)) (some 2) (fun w1 => OnlyG w3.heap.size (((w3.alloc (Obj.cells #[.int .u64 0, .map (some m), .int .i64 0] 64)).alloc (Obj.cells #[.slice none 0 0] 23)).alloc (.cells #[.int .i64 0] 28)) w1) (hdo.mono fun e w1 ⟨he, hG⟩ =>
    ⟨he, ⟨(hG.cell (by rw [hsz]; omega) (by simp)).trans (by simp [go_sem]), (hG.frozen (by rw [hsz]; omega) (by simp)).trans (by simp [go_sem])⟩, hG⟩)
  rw [hsz] at HC
  exact HC.mono fun e w' ⟨he, w1, hG, _, hw⟩ => ⟨he, by rw [hw]; exact (hB.trans hG.bel).setCell (p := ⟨w3.heap.size + 2, 0, none⟩) (by simp) _⟩

set_option maxRecDepth 100000 in
set_option maxHeartbeats 3200000 in
theorem Rewrite_B (N ct cl : Nat) (p q : Option Addr) (w : World) (hT : tfB.In w N p) (hL : liB.In w N q) (hN : N ≤ w.heap.size) :
    Calls Try.prog 9 #[.slice p 1 ct, .slice q 1 cl, .int .u64 0, .bool false] w fun e w' =>
      e = .returned (.tuple #[.slice none 0 0, .int .i64 2]) ∧ Below w.heap.size w w' := by
  have hmf : ∀ (fn : Fn) (first cap : Array Value) (w : World), (Instr.makeFunc fn first cap).run Try.prog w = .ok (.func fn first cap) w := fun _ _ _ _ => rfl
  have HC := Lib.hid (fun (w1 : World) (hb : Below w.heap.size w w1) => check_any liB q cl N w1 (In_later hL hb hN) (Nat.le_trans hN hb.size))
  have HT := Lib.hid (fun (w1 : World) (hb : Below w.heap.size w w1) => terms_any tfB p ct N w1 (Tf.In_later hT hb hN) (Nat.le_trans hN hb.size) (by decide) (by decide))
  have e1 : liB.check = 0 := by decide
  have e2 : tfB.okT = true := by decide
  rw [e1] at HC
  rw [e2] at HT
  have HA := Lib.hid (fun (o1 o2 o3 : Obj) => (((Below.refl _ w).alloc (Nat.le_refl _) o1).alloc (by simp) o2).alloc (by simp; omega) o3)
  have CELLS := Lib.hid (show ∀ w1, Below (((w.alloc (Obj.cells #[.slice p 1 ct] 22)).alloc (Obj.cells #[.slice q 1 cl] 23)).alloc (Obj.cells #[.bool false] 4)).heap.size (((w.alloc (Obj.cells #[.slice p 1 ct] 22)).alloc (Obj.cells #[.slice q 1 cl] 23)).alloc (Obj.cells #[.bool false] 4)) w1 → (w1.cell? ⟨w.heap.size, 0, none⟩ = some (.slice p 1 ct) ∧ w1.cell? ⟨w.heap.size + 1, 0, none⟩ = some (.slice q 1 cl) ∧ w1.cell? ⟨w.heap.size + 1 + 1, 0, none⟩ = some (.bool false)) ∧ Below w.heap.size w w1 ∧ w.heap.size + 3 ≤ w1.heap.size from
    fun w1 hb => ⟨⟨(hb.cell (by simp; omega)).trans (by simp [go_sem]), (hb.cell (by simp)).trans (by simp [go_sem]), (hb.cell (by simp)).trans (by simp [go_sem])⟩, (HA.out _ _ _).trans (hb.mono (by simp; omega)), by have := hb.size; simp at this; omega⟩)
  have CA := Lib.hid (fun (m : Nat) (w3 : World) (hb : Below w.heap.size w w3) => caught_B w.heap.size m N ct cl p q w3 (Tf.In_later hT hb hN) (In_later hL hb hN) (Nat.le_trans hN hb.size))
  clear hT hL e1 e2
  go_enter Try.func9, Try.ntmps9
  go_wp2_with (first | (go_at_call 19; refine (HC.out _ (HA.out _ _ _)).mono ?_; rintro e w1 ⟨rfl, hb1⟩; obtain ⟨⟨t0, l0, b0⟩, hB1, hs1⟩ := CELLS.out _ hb1) | (go_at_call 20; refine (HT.out _ hB1).mono ?_; rintro e w2 ⟨rfl, hb2⟩; have hb12 := hb1.trans (hb2.mono hb1.size); obtain ⟨⟨t1, l1, b1⟩, hB2, hs2⟩ := CELLS.out _ hb12) | (go_at_call 21; refine (deeds_any _).mono ?_; rintro e w3 ⟨m, rfl, hm, hmb, hb3⟩; have HM := Lib.hid hm; clear hm; have hb13 := hb12.trans (hb3.mono hb12.size); obtain ⟨⟨t2, l2, b2⟩, hB3, hs3⟩ := CELLS.out _ hb13) | (go_at_call 22; refine (CA.out m w3 hB3 HM.out t2 l2 b2).mono ?_; rintro e w7 ⟨rfl, hB7⟩; have HBE := Lib.hid (hB3.trans (hB7.mono hB3.size)); clear hB7))
  go_ret2
  exact ⟨rfl, HBE.out⟩
end Go.Proofs.Ytcadeeldogknmaa
/- The document's: are two flat ones the same, are two leakages? -/
namespace Go.Proofs.Ytcadeeldogknmaa
open Go.RowKit

/-- what is seen, behind an address -/
def SnAt (w : World) : List Sn → Nat → Nat → Prop
  | [], _, _ => True
  | x :: xs, b, o => (∀ j u, x.cells[j]? = some u → w.cell? ⟨b, o + j, none⟩ = some u) ∧ SnAt w xs b (o + 3)
def Sn.same : Sn → Sn → Bool
  | .jump a, .jump b => a == b
  | .addr a, .addr b => a == b
  | _, _ => false
def snSame : List Sn → List Sn → Bool
  | [], [] => true
  | x :: xs, y :: ys => x.same y && snSame xs ys
  | _, _ => false

theorem SnAt.drop {w : World} : ∀ (ds rs : List Sn) (b o : Nat), SnAt w (ds ++ rs) b o → SnAt w rs b (o + ds.length * 3)
  | [], _, _, o, h => by rw [List.length_nil, Nat.zero_mul]; exact h
  | _ :: ds, rs, b, o, h => by
    have := SnAt.drop ds rs b (o + 3) h.2
    rw [List.length_cons, show o + (ds.length + 1) * 3 = o + 3 + ds.length * 3 by omega]; exact this
theorem SnAt.later {w w' : World} {N : Nat} (hw : Below N w w') : ∀ (xs : List Sn) (b o : Nat), b < N → SnAt w xs b o → SnAt w' xs b o
  | [], _, _, _, _ => trivial
  | _ :: xs, b, o, hb, h => ⟨fun j u hj => (hw.cell hb).trans (h.1 j u hj), SnAt.later hw xs b (o + 3) hb h.2⟩
def SnIn (w : World) (N : Nat) (xs : List Sn) (p : Option Addr) : Prop := Sl N p xs.length (SnAt w xs)
theorem SnIn.later {w w' : World} {N M : Nat} {l : List Sn} {p : Option Addr} (h : SnIn w N l p) (hw : Below N w w') (hM : N ≤ M) : SnIn w' M l p :=
  Sl.imp h hM fun b o hb ha => SnAt.later hw l b o hb ha
theorem Sn.three (x : Sn) : ∃ (a t : Bool) (z : Int), x.cells = [.bool a, .bool t, .int .u64 z] := by
  cases x with
  | jump t => exact ⟨true, t, 0, rfl⟩
  | addr z => exact ⟨false, false, z, rfl⟩
theorem Sn.same_three {x y : Sn} {a t a' t' : Bool} {z z' : Int} (hx : x.cells = [.bool a, .bool t, .int .u64 z]) (hy : y.cells = [.bool a', .bool t', .int .u64 z']) : x.same y = (a == a' && t == t' && z == z') := by
  cases x <;> cases y <;> simp [Sn.cells] at hx hy <;> obtain ⟨rfl, rfl, rfl⟩ := hx <;> obtain ⟨rfl, rfl, rfl⟩ := hy <;> simp [Sn.same]
theorem snSame_len : ∀ {xs ys : List Sn}, xs.length ≠ ys.length → snSame xs ys = false
  | [], [], h => absurd rfl h
  | [], _ :: _, _ => rfl
  | _ :: _, [], _ => rfl
  | x :: xs, y :: ys, h => by simp only [snSame, snSame_len (xs := xs) (ys := ys) (by simpa using h), Bool.and_false]
theorem snSame_self : ∀ xs : List Sn, snSame xs xs = true
  | [] => rfl
  | x :: xs => by simp only [snSame, snSame_self xs, Bool.and_true]; cases x <;> simp [Sn.same]

set_option maxHeartbeats 3200000 in
theorem sameSeen_any (xs ys : List Sn) (p p' : Option Addr) (ca cb N : Nat) (w : World) (h1 : SnIn w N xs p) (h2 : SnIn w N ys p') (hN : N ≤ w.heap.size) :
    Calls Try.prog 17 #[.slice p xs.length ca, .slice p' ys.length cb] w fun e w' => e = .returned (.bool (snSame xs ys)) ∧ Below w.heap.size w w' := by
  have S1 := Lib.hid h1
  have S2 := Lib.hid h2
  have hm1 := h1.1
  have hm2 := h2.1
  clear h1 h2
  by_cases hl : xs.length = ys.length
  · have HL := Lib.hid hl
    have hl' : ((xs.length : Int) != (ys.length : Int)) = false := by simp [hl]
    clear hl
    go_enter Try.func17, Try.ntmps17
    go_wp2_with fail
    go_loopw [5] (fun i wr => ∃ (dx rx dy ry : List Sn), i = .int .i64 dx.length ∧ dx.length + rx.length = xs.length ∧ Hid (dy.length = dx.length ∧ xs = dx ++ rx ∧ ys = dy ++ ry) ∧ Hid (snSame xs ys = snSame rx ry) ∧ Hid (Below w.heap.size w wr))
      (fun i _ => xs.length - (intOf i).toNat)
    case atStart => exact ⟨[], xs, [], ys, rfl, by simp, Lib.hid ⟨rfl, rfl, rfl⟩, Lib.hid rfl, Lib.hid (Below.refl _ _)⟩
    case round =>
      obtain ⟨dx, rx, dy, ry, rfl, hj, hE, hS, hB⟩ := hrel
      have hry : rx.length = ry.length := by have h1 := congrArg List.length hE.out.2.1; have h2 := congrArg List.length hE.out.2.2; have h3 := HL.out; have h4 := hE.out.1; simp at h1 h2; omega
      have HRY := Lib.hid hry
      clear hry
      cases rx with
      | nil =>
        simp only [List.length_nil] at hj
        have hge : ¬ dx.length < xs.length := by omega
        go_wp2_with fail
        go_ret
        exact ⟨ret_bool (by rw [hS.out]; cases ry with | nil => rfl | cons => have := HRY.out; simp at this), hB.out⟩
      | cons x rx =>
        obtain ⟨y, ry, rfl⟩ : ∃ y r, ry = y :: r := by cases ry with | nil => have := HRY.out; simp at this | cons y r => exact ⟨y, r, rfl⟩
        simp only [List.length_cons] at hj
        have hlt : dx.length < xs.length := by omega
        have hlt2 : dx.length < ys.length := by have := HL.out; omega
        rcases S1.out.2 with h30 | ⟨b, o, rfl, hb, ha⟩
        · omega
        rcases S2.out.2 with h30 | ⟨b', o', rfl, hb', ha'⟩
        · omega
        rw [hE.out.2.1] at ha
        rw [hE.out.2.2] at ha'
        have kx := (SnAt.drop _ _ _ _ ha).1
        have ky := (SnAt.drop _ _ _ _ ha').1
        rw [hE.out.1] at ky
        obtain ⟨a1, t1, z1, hx3⟩ := x.three
        obtain ⟨a2, t2, z2, hy3⟩ := y.three
        rw [hx3] at kx
        rw [hy3] at ky
        have x0 : wr.cell? ⟨b, o + dx.length * 3, none⟩ = some (.bool a1) := (hB.out.cell (show b < w.heap.size by omega)).trans (kx 0 _ rfl)
        have x1 := (hB.out.cell (show b < w.heap.size by omega)).trans (kx 1 _ rfl)
        have x2 := (hB.out.cell (show b < w.heap.size by omega)).trans (kx 2 _ rfl)
        have y0 : wr.cell? ⟨b', o' + dx.length * 3, none⟩ = some (.bool a2) := (hB.out.cell (show b' < w.heap.size by omega)).trans (ky 0 _ rfl)
        have y1 := (hB.out.cell (show b' < w.heap.size by omega)).trans (ky 1 _ rfl)
        have y2 := (hB.out.cell (show b' < w.heap.size by omega)).trans (ky 2 _ rfl)
        have HS3 := Lib.hid (show snSame xs ys = ((a1 == a2 && t1 == t2 && z1 == z2) && snSame rx ry) by rw [hS.out]; simp only [snSame]; rw [Sn.same_three hx3 hy3])
        have HBd := Lib.hid hB.out.drew
        clear kx ky ha ha' hx3 hy3 hS
        by_cases ha : a1 = a2
        · subst ha
          by_cases ht : t1 = t2
          · subst ht
            by_cases hz : z1 = z2
            · subst hz
              go_wp2_with fail
              go_region
              all_goals go_wp2_with fail
              all_goals go_roundw
              all_goals first
                | (simp [intOf]; omega)
                | exact ⟨dx ++ [x], rx, dy ++ [y], ry, by rw [List.length_append]; go_num, by simp; omega, Lib.hid ⟨by simp [hE.out.1], by rw [hE.out.2.1]; simp, by rw [hE.out.2.2]; simp⟩, Lib.hid (by rw [HS3.out]; simp), HBd⟩
            · go_wp2_with fail
              go_region
              all_goals go_wp2_with fail
              all_goals go_ret
              all_goals exact ⟨ret_bool (by rw [HS3.out]; simp [hz]), HBd.out⟩
          · go_wp2_with fail
            go_region
            all_goals go_wp2_with fail
            all_goals go_ret
            all_goals exact ⟨ret_bool (by rw [HS3.out]; simp [ht]), HBd.out⟩
        · go_wp2_with fail
          go_region
          all_goals go_wp2_with fail
          all_goals go_ret
          all_goals exact ⟨ret_bool (by rw [HS3.out]; simp [ha]), HBd.out⟩
  · have HB := Lib.hid (snSame_len hl)
    have hl' : ((xs.length : Int) != (ys.length : Int)) = true := by simp; omega
    clear hl
    go_enter Try.func17, Try.ntmps17
    go_wp2_with fail
    go_ret
    exact ⟨ret_bool HB.out.symm, Below.refl _ _⟩
end Go.Proofs.Ytcadeeldogknmaa
