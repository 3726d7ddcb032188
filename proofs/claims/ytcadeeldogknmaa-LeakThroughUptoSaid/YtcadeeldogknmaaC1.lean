/- L9, L10, ZQ, C1 as one. -/
import Derived.Test.YtcadeeldogknmaaR3
import Derived.Test.YtcadeeldogknmaaZP
import Derived.Deep.RegionWith
import Derived.Test.YtcadeeldogknmaaVL
import Derived.Test.YtcadeeldogknmaaFM
/- Leakage as a list of what is seen: the walk, and Flat. -/
namespace Go.Proofs.Ytcadeeldogknmaa
open Go.RowKit

mutual
def Lf.count : Lf → Nat
  | .nil => 0
  | .node _ is _ s r => 1 + is.length + (s.count + r.count)
def Ls.count : Ls → Nat
  | .nil => 0
  | .sub l r => l.count + r.count
end
mutual
theorem Lf.flat_le : ∀ l : Lf, l.flat.length ≤ l.count
  | .nil => Nat.le_refl _
  | .node k is t s r => by
    have := Ls.flat_le s
    have := Lf.flat_le r
    have : (seenOf k is t).length ≤ 1 + is.length := by unfold seenOf; split <;> simp <;> omega
    simp only [Lf.flat, Lf.count, List.length_append]; omega
theorem Ls.flat_le : ∀ l : Ls, l.flat.length ≤ l.count
  | .nil => Nat.le_refl _
  | .sub l r => by
    have := Lf.flat_le l
    have := Ls.flat_le r
    simp only [Ls.flat, Ls.count, List.length_append]; omega
end

theorem Grows.self {c : Nat} {w wr : World} {xs : List Sn} (h : Grows c w wr xs) : Grows c wr wr xs := ⟨Below.refl _ _, h.2⟩
theorem Grows.onto {c : Nat} {w wr w' : World} {xs ys : List Sn} (h : Grows c w wr xs) (k : Grows c wr w' ys) : Grows c w w' ys := ⟨h.1.trans k.1, k.2⟩

def FlatTo (n : Nat) : Prop := ∀ (l : Lf), l.size < n → ∀ (p : Option Addr) (cap N c : Nat) (deep : Int) (w : World) (xs : List Sn), l.In w N p → N ≤ c → Grows c w w xs → xs.length + l.count ≤ 3000000 →
    Calls Try.prog 28 #[.slice p l.len cap, .int .i64 deep, .func (Fn.func 29) #[] #[.pointer (some ⟨c, 0, none⟩)]] w fun e w' => e = .returned (.tuple #[]) ∧ Grows c w w' (xs ++ l.flat)

set_option maxHeartbeats 3200000 in
theorem flat_step (n : Nat) (ih : FlatTo n) : FlatTo (n + 1) := by
  intro l hsz p cap N c deep w xs h hNc hg hcn
  have IH := Lib.hid ih
  clear ih
  have S0 := Lib.hid h
  have hm := h.1
  clear h
  go_enter Try.func28, Try.ntmps28
  go_wp2_with fail
  go_loopw [11] (fun i wr => ∃ (k : Nat) (r : Lf) (ys : List Sn), i = .int .i64 k ∧ k + r.len = l.len ∧ r.size ≤ n ∧ Hid (∀ b o, p = some ⟨b, o, none⟩ → l.At w N b o → r.At w N b (o + k * 4)) ∧ Hid (xs ++ l.flat = ys ++ r.flat) ∧ Hid (ys.length + r.count ≤ 3000000) ∧ Hid (Grows c w wr ys))
    (fun i _ => l.len - (intOf i).toNat)
  case atStart => exact ⟨0, l, xs, rfl, by omega, by omega, Lib.hid fun b o _ h => by rw [Nat.zero_mul]; exact h, Lib.hid rfl, Lib.hid hcn, Lib.hid hg⟩
  case round =>
    clear hg hcn
    obtain ⟨k, r, ys, rfl, hk, hrs, hat, E, hcn, hg⟩ := hrel
    cases r with
    | nil =>
      simp only [Lf.len] at hk
      have hge : ¬ k < l.len := by omega
      have HB := Lib.hid (show Grows c w wr (xs ++ l.flat) by rw [E.out]; simpa [Lf.flat] using hg.out)
      go_wp2_with fail
      go_end0
      exact ⟨rfl, HB.out⟩
    | node kd is t s r =>
      simp only [Lf.len] at hk
      simp only [Lf.size] at hrs
      have hlt : k < l.len := by omega
      rcases S0.out.2 with h30 | ⟨b, o, rfl, hb, ha⟩
      · omega
      obtain ⟨g0, ⟨q, cq, g1, s1⟩, g2, ⟨q3, d, g3, s3⟩, hr⟩ := hat.out b o rfl ha
      have hbel := hg.out.1
      have f0 := (hbel.cell (show b < c by omega)).trans g0
      have f1 := (hbel.cell (show b < c by omega)).trans g1
      have f2 := (hbel.cell (show b < c by omega)).trans g2
      have hcn1 : ys.length + (1 + is.length + (s.count + r.count)) ≤ 3000000 := hcn.out
      have HC1 := Lib.hid hcn1
      have HP := Lib.hid (flat1_any b (o + k * 4) c deep kd is t q cq N wr ys hNc hb f0 f1 (s1.imp (Nat.le_refl _) fun b' o' hb' ha' => Ints.later (hbel.mono hNc) _ _ _ hb' ha') f2 hg.out.self (by omega))
      have E1 := Lib.hid (show xs ++ l.flat = (ys ++ seenOf kd is t) ++ (s.flat ++ r.flat) by rw [E.out]; simp [Lf.flat])
      have HQ := Lib.hid hr
      have S3 := Lib.hid s3
      have hm3 := s3.1
      have hsl : (seenOf kd is t).length ≤ 1 + is.length := by unfold seenOf; split <;> simp <;> omega
      have HL := Lib.hid (show (ys ++ seenOf kd is t).length + (s.count + r.count) ≤ 3000000 by rw [List.length_append]; omega)
      clear g0 g1 g2 f0 f1 f2 s1 s3 hr hcn1 hsl ha hbel
      go_wp2_with (go_at_call 29; refine HP.out.mono ?_; rintro e w1 ⟨rfl, hG⟩; have f3 := ((hg.out.onto hG).1.cell (show b < c by omega)).trans g3)
      have hg1 := Lib.hid (hg.out.onto hG)
      clear g3 hG
      go_loopw [27] (fun i wr' => ∃ (j : Nat) (z : Ls) (us : List Sn), i = .int .i64 j ∧ j + z.len = s.len ∧ z.size ≤ s.size ∧ Hid (∀ b o, q3 = some ⟨b, o, none⟩ → s.At w N b o → z.At w N b (o + j)) ∧
          Hid (xs ++ l.flat = us ++ (z.flat ++ r.flat)) ∧ Hid (us.length + (z.count + r.count) ≤ 3000000) ∧ Hid (Grows c w wr' us))
        (fun i _ => s.len - (intOf i).toNat)
      case atStart => exact ⟨0, s, ys ++ seenOf kd is t, rfl, by omega, Nat.le_refl _, Lib.hid fun b o _ h => h, E1, HL, hg1⟩
      case round =>
        clear hg1 HL E1 HP
        obtain ⟨j, z, us, rfl, hj, hzs, hzat, E3, hcn3, hg3⟩ := hrel
        cases z with
        | nil =>
          simp only [Ls.len] at hj
          have hge : ¬ j < s.len := by omega
          go_wp2_with fail
          go_roundw
          case rel => exact ⟨k + 1, r, us, by go_num, by omega, by omega, Lib.hid fun b' o' hbo _ => by cases hbo; exact At_step HQ.out, E3, Lib.hid (by simpa [Ls.count] using hcn3.out), hg3⟩
          case measure => simp [intOf]; omega
        | sub l2 r2 =>
          rcases S3.out.2 with h30 | ⟨b3, o3, rfl, hb3, ha3⟩
          · simp only [Ls.len] at hj; omega
          obtain ⟨⟨q4, c4, g4, s4⟩, hzz⟩ := hzat.out b3 o3 rfl ha3
          simp only [Ls.len] at hj
          simp only [Ls.size] at hzs
          have hlt3 : j < s.len := by omega
          have hbel := hg3.out.1
          have f4 := (hbel.cell (show b3 < c by omega)).trans g4
          have hcn4 : us.length + (l2.count + r2.count + r.count) ≤ 3000000 := hcn3.out
          have HR := Lib.hid (fun deep => IH.out l2 (by omega) q4 c4 N c deep _ us (s4.imp (Nat.le_refl _) fun b' o' hb' ha' => Lf.At.later (hbel.mono hNc) (Nat.le_refl _) _ _ _ hb' ha') hNc hg3.out.self (by omega))
          have HZ := Lib.hid hzz
          have HL := Lib.hid (show (us ++ l2.flat).length + (r2.count + r.count) ≤ 3000000 by have := Lf.flat_le l2; rw [List.length_append]; omega)
          clear g4 s4 hzz hbel hcn4 ha3
          go_wp2_with (go_at_call 28; refine (HR.out _).mono ?_; rintro e w' ⟨rfl, hG⟩)
          go_roundw
          case rel => exact ⟨j + 1, r2, us ++ l2.flat, by go_num, by omega, by omega, Lib.hid fun b' o' hbo _ => by cases hbo; exact HZ.out, Lib.hid (by rw [E3.out]; simp [Ls.flat]), HL, Lib.hid (hg3.out.onto hG)⟩
          case measure => simp [intOf]; omega

theorem flat_to : ∀ n, FlatTo n
  | 0 => fun _ h => absurd h (Nat.not_lt_zero _)
  | n + 1 => flat_step n (flat_to n)
end Go.Proofs.Ytcadeeldogknmaa
/- Flat. -/
namespace Go.Proofs.Ytcadeeldogknmaa
open Go.RowKit

theorem own_le {w : World} {base base' size n : Nat} {e : TypeId} {v : Value} {xs : List Value} (h : w.ownsRow base e size v n xs) (hb : base' ≤ base) : w.ownsRow base' e size v n xs := by
  refine ⟨h.1, ?_⟩
  rcases h.2 with hn | ⟨g, cap, cur, hv, hg, hr⟩
  · exact .inl hn
  · exact .inr ⟨g, cap, cur, hv, Nat.le_trans hb hg, hr⟩

mutual
theorem Lf.meas_ok : ∀ (l : Lf) (deep : Nat) (x y : Int), 0 ≤ x → l.meas deep x = .ok y → y = x - l.count ∧ 0 ≤ y
  | .nil, _, _, _, h0, h => by simp only [Lf.meas, Except.ok.injEq] at h; subst h; simp [Lf.count]; exact h0
  | .node _ is _ s r, deep, x, y, h0, h => by
    simp only [Lf.meas] at h
    split at h
    · cases h
    · split at h
      · cases h
      · split at h
        · rename_i z hz
          have h1 := Ls.meas_ok s (deep + 1) _ _ (by omega) hz
          have h2 := Lf.meas_ok r deep _ _ h1.2 h
          simp only [Lf.count]; omega
        · cases h
theorem Ls.meas_ok : ∀ (l : Ls) (deep : Nat) (x y : Int), 0 ≤ x → l.meas deep x = .ok y → y = x - l.count ∧ 0 ≤ y
  | .nil, _, _, _, h0, h => by simp only [Ls.meas, Except.ok.injEq] at h; subst h; simp [Ls.count]; exact h0
  | .sub l r, deep, x, y, h0, h => by
    simp only [Ls.meas] at h
    split at h
    · rename_i z hz
      have h1 := Lf.meas_ok l deep _ _ h0 hz
      have h2 := Ls.meas_ok r deep _ _ h1.2 h
      simp only [Ls.count]; omega
    · cases h
end
theorem check_count {l : Lf} (h : l.check = 0) : l.count ≤ 1000000 := by
  unfold Lf.check at h
  cases hA : l.meas 1 1000000 with
  | ok y => have := Lf.meas_ok l 1 1000000 y (by omega) hA; omega
  | error y => rw [hA] at h; simp only [errOf] at h; rcases Lf.meas_err l _ _ _ hA with rfl | rfl <;> omega

set_option maxHeartbeats 1600000 in
theorem Flat_bad (l : Lf) (p : Option Addr) (cap N : Nat) (w : World) (h : l.In w N p) (hN : N ≤ w.heap.size) (hc : (l.check == 0) = false) :
    Calls Try.prog 16 #[.slice p l.len cap] w fun e w1 => e = .returned (.tuple #[.slice none 0 0, .int .i64 l.check]) ∧ Below w.heap.size w w1 := by
  have HM := Lib.hid (check_any l p cap N w h hN)
  clear h
  obtain ⟨C, hC⟩ : ∃ C, C = l.check := ⟨_, rfl⟩
  rw [← hC] at HM hc ⊢
  clear hC
  have hc' : (C != 0) = true := by simp [bne, hc]
  go_enter Try.func16, Try.ntmps16
  go_wp2_with (go_at_call 19; refine HM.out.mono ?_; rintro e w1 ⟨rfl, hB⟩)
  go_ret2
  exact ⟨rfl, hB⟩
set_option maxHeartbeats 1600000 in
theorem Flat_ok (l : Lf) (p : Option Addr) (cap N : Nat) (w : World) (h : l.In w N p) (hN : N ≤ w.heap.size) (hc : l.check = 0) :
    Calls Try.prog 16 #[.slice p l.len cap] w fun e w1 => ∃ v, e = .returned (.tuple #[v, .int .i64 0]) ∧ Below w.heap.size w w1 ∧ w1.ownsRow w.heap.size 53 3 v l.flat.length (snCells l.flat) := by
  have hmf : ∀ (fn : Fn) (first cap : Array Value) (w : World), (Instr.makeFunc fn first cap).run Try.prog w = .ok (.func fn first cap) w := fun _ _ _ _ => rfl
  have HM := Lib.hid (check_any l p cap N w h hN)
  rw [hc] at HM
  have hct := check_count hc
  have HF := Lib.hid (fun (w1 : World) (hB : Below w.heap.size w w1) => flat_to _ l (Nat.lt_succ_self _) p cap N w1.heap.size 1 (w1.alloc (.cells #[.slice none 0 0] 49)) []
    (In_later h (hB.alloc hB.size _) hN) (Nat.le_trans hN hB.size) ⟨Below.refl _ _, .slice none 0 0, by simp [go_sem], by simp [go_sem], World.ownsRow_nil _ _ _ _, by simp⟩ (by simp; omega))
  clear h hc hct
  go_enter Try.func16, Try.ntmps16
  go_wp2_with (first | (go_at_call 19; refine HM.out.mono ?_; rintro e w1 ⟨rfl, hB⟩) | (go_at_call 28; refine (HF.out _ hB).mono ?_; rintro e w2 ⟨rfl, hB2, v, hv, hz, hown, hsz⟩))
  go_ret2
  refine ⟨v, rfl, (hB.alloc hB.size _).trans (hB2.mono hB.size), ?_⟩
  have hs := hB.size
  exact own_le (by simpa using hown) (by omega)
end Go.Proofs.Ytcadeeldogknmaa
/- The closure that rewrites. -/
namespace Go.Proofs.Ytcadeeldogknmaa
open Go.RowKit

theorem list_any (t : Rc) (l : Lf) (q qr : Option Addr) (c d : Nat) (br : Bool) (N g mp : Nat) (st : Int) (w w2 : World) (hr : RwS w g st mp 0) (hm : w.heap[mp]? = some (fmap deedT)) (hmg : mp ≠ g) (hN : N ≤ g) (hl : l.In w N q) (hB : Below w.heap.size w w2) (ht : NewN N w.heap.size w2 fun u M => Sl M qr t.len (Rc.At u M t)) (htf : t.fine) (hs : l.shaped = true) (hw : l.wt ≤ 1073741824) :
    Calls Try.prog 24 #[.pointer (some ⟨g, 0, none⟩), .slice none 0 0, .slice qr t.len d, .slice q l.len c, .bool br] w2 (RwEnd g w2.heap.size st mp .nil (.slice none 0 0) w2 (l.rw st t br 0)) := by
  have hgl := hr.lt
  have hgw : g < w2.heap.size := Nat.lt_of_lt_of_le hgl hB.size
  have hml : mp < w.heap.size := lt_blk hm
  refine rl_to (l.wt + 1) l (Nat.lt_succ_self _) t qr q d c br g w2.heap.size mp 0 st .nil (.slice none 0 0) w2 ⟨hr.later hB hgl, OutG.nil _ _ _ _ _ rfl, hgw, Nat.le_refl _, fun W hW => (hW.block mp (Nat.lt_of_lt_of_le hml hB.size) hmg (by intro h; cases h)).trans ((hB.block mp hml).trans hm), by omega, by simp only [Lf.len]; omega, hw⟩ (fun W hW => ?_) (fun W hW => ?_) htf hs
  · obtain ⟨S, h1, h2⟩ := ht
    exact Sl.imp' h1 (Nat.le_refl _) fun b o ha => Rc.At.le (fun b o v hv => by
      obtain ⟨e1, e2⟩ := cell_cut_some hv
      have hb : b < w2.heap.size ∧ b ≠ g := by rcases h2 b e1 with h | h <;> omega
      exact (hW.cell hb.1 hb.2 (by intro h; cases h)).trans e2) (Nat.le_refl _) t b o ha
  · have hb : Below N w W := (hB.mono (by omega)).trans (hW.below (by omega) hN (by intro k h; cases h))
    exact mono_lfin l q _ _ _ _ (In_later hl hb (Nat.le_refl _)) (Le.refl _) (by omega)
/-- what rewriting leaves -/
def R1End (g : Nat) (st : Int) (mp bo : Nat) (w : World) (R : Option (Lf × Nat)) (e : Ending) (w' : World) : Prop :=
  match R with
  | some (x, m) => e = .returned (.tuple #[]) ∧ ∃ w1 q c lo, w.heap.size ≤ lo ∧ Ch g none w w1 ∧ RwS w1 g st mp m ∧ OutL w1 lo (.slice q x.len c) x ∧ w' = w1.setCell ⟨bo, 0, none⟩ (.slice q x.len c)
  | none => e = panicked 2 ∧ Ch g none w w'
set_option maxRecDepth 100000 in
set_option maxHeartbeats 6400000 in
theorem rewrite1_any (t : Tf) (l : Lf) (p q : Option Addr) (ct cl : Nat) (br : Bool) (N g mp bt bk bb bo : Nat) (st : Int) (w : World) (hr : RwS w g st mp 0) (hm : w.heap[mp]? = some (fmap deedT)) (hmg : mp ≠ g) (hN : N ≤ g)
    (ht : w.cell? ⟨bt, 0, none⟩ = some (.slice p t.len ct)) (hk : w.cell? ⟨bk, 0, none⟩ = some (.slice q l.len cl)) (hb : w.cell? ⟨bb, 0, none⟩ = some (.bool br)) (ho : w.cell? ⟨bo, 0, none⟩ = some (.slice none 0 0)) (hoz : w.frozen? ⟨bo, 0, none⟩ = false) (hog : bo ≠ g)
    (hT : t.In w N p) (hL : l.In w N q) (hcap : ∀ b o, p = some ⟨b, o, none⟩ → t.Cap (cutN N w) b o) (hsz : t.size ≤ 1073741824) (hok : t.rok) (htf : t.rc.fine) (hs : l.shaped = true) (hw : l.wt ≤ 1073741824) :
    Calls Try.prog 23 #[.pointer (some ⟨g, 0, none⟩), .pointer (some ⟨bt, 0, none⟩), .pointer (some ⟨bk, 0, none⟩), .pointer (some ⟨bb, 0, none⟩), .pointer (some ⟨bo, 0, none⟩)] w (R1End g st mp bo w (l.rw st t.rc br 0)) := by
  have hgl := hr.lt
  have hNw : N ≤ w.heap.size := by omega
  have HP := Lib.hid (fun (w1 : World) (hb1 : Below w.heap.size w w1) => rec_to (t.size + 1) t (Nat.lt_succ_self _) hsz hok p ct N w1 (Tf.In_later hT hb1 hNw) (Nat.le_trans hNw hb1.size) (fun b o e => Tf.Cap.congr (fun b o => cutN_cell (hb1.mono hNw) b o) t b o (hcap b o e)))
  have HL := Lib.hid (fun (w2 : World) (hb2 : Below w.heap.size w w2) (qr : Option Addr) (d : Nat) (h : NewN N w.heap.size w2 fun u M => Sl M qr t.rc.len (Rc.At u M t.rc)) => list_any t.rc l q qr cl d br N g mp st w w2 hr hm hmg hN hL hb2 h htf hs hw)
  have hol : bo < w.heap.size := World.block_lt_of_cell? _ _ ho
  have HK := Lib.hid (fun (w1 : World) (hb1 : Below w.heap.size w w1) => (show w1.cell? ⟨bk, 0, none⟩ = some (.slice q l.len cl) ∧ w1.cell? ⟨bb, 0, none⟩ = some (.bool br) from ⟨(hb1.cell (World.block_lt_of_cell? _ _ hk)).trans hk, (hb1.cell (World.block_lt_of_cell? _ _ hb)).trans hb⟩))
  have HO := Lib.hid (fun (w1 : World) (hb1 : Ch g none w w1) => (show w1.cell? ⟨bo, 0, none⟩ = some (.slice none 0 0) ∧ w1.frozen? ⟨bo, 0, none⟩ = false from ⟨(hb1.cell hol hog (by intro h; cases h)).trans ho, (World.frozen?_of_block (hb1.block bo hol hog (by intro h; cases h))).trans hoz⟩))
  rw [Tf.rc_len] at HL
  clear hr hm hT hL ho hoz hcap hsz hok htf hs hw
  cases hR : l.rw st t.rc br 0 with
  | some r =>
    obtain ⟨x, m⟩ := r
    rw [hR] at HL
    have HR := Lib.hid hR
    clear hR
    go_enter Try.func23, Try.ntmps23
    go_wp2_with fail
    have HD := Lib.hid (Below.refl w.heap.size w).drew
    go_region_with (first | (go_at_call 25; refine (HP.out _ HD.out).mono ?_; rintro e w2 ⟨qr, d, rfl, hB2, hN2⟩; have hbw := HD.out.trans (hB2.mono HD.out.size); obtain ⟨k1, k2⟩ := HK.out _ hbw; rewrite [Tf.rc_len] at hN2; have HN2 := Lib.hid hN2; clear hN2) | (go_at_call 24; refine (HL.out _ hbw _ _ HN2.out).mono ?_; rintro e w3 ⟨v3, rfl, hO3, hr3, hC3, _⟩; obtain ⟨q3, c3, rfl, _⟩ := OutG.form hO3; have hCw : Ch g none w w3 := (Ch.of none hbw).trans hC3 (.inl rfl); obtain ⟨o1, o2⟩ := HO.out _ hCw; have HF := Lib.hid (And.intro hCw (And.intro hr3 (And.intro hO3 hbw.size))); clear hO3 hr3 hC3 hCw))
    all_goals go_end0
    all_goals exact ⟨rfl, _, q3, c3, _, HF.out.2.2.2, HF.out.1, HF.out.2.1, HF.out.2.2.1, rfl⟩
  | none =>
    rw [hR] at HL
    go_enter Try.func23, Try.ntmps23
    go_wp2_with fail
    have HD := Lib.hid (Below.refl w.heap.size w).drew
    refine bgk 5 (fun W => W.cell? ⟨bt, 0, none⟩ = some (.slice p t.len ct) ∧ W.cell? ⟨bk, 0, none⟩ = some (.slice q l.len cl) ∧ W.cell? ⟨bb, 0, none⟩ = some (.bool br)) (⟨ht, hk, hb⟩) (fun hHeld => ?_)
    refine tkl 0 ?_ rfl (.inl ⟨by rfl, ?_⟩) ?_
    rotate_left
    · (intro w hSw; (try dsimp only at hSw); go_simp; try with_reducible rfl)
    try simp only [Act.put, List.setIfInBounds_toArray, List.set_cons_zero, List.set_cons_succ]
    refine tkl 2 ?_ rfl (.inl ⟨by rfl, ?_⟩) ?_
    rotate_left
    · (intro w hSw; (try dsimp only at hSw); go_simp; try with_reducible rfl)
    try simp only [Act.put, List.setIfInBounds_toArray, List.set_cons_zero, List.set_cons_succ]
    refine tkl 3 ?_ rfl (.inl ⟨by rfl, ?_⟩) ?_
    rotate_left
    · (intro w hSw; (try dsimp only at hSw); go_simp; try with_reducible rfl)
    try simp only [Act.put, List.setIfInBounds_toArray, List.set_cons_zero, List.set_cons_succ]
    refine rdk 1 rfl (fun K hK => ?_)
    go_simp
    refine (HP.out _ HD.out).mono ?_
    rintro e w2 ⟨qr, d, rfl, hB2, hN2⟩
    have hbw := HD.out.trans (hB2.mono HD.out.size)
    rewrite [Tf.rc_len] at hN2
    have HN2 := Lib.hid hN2
    clear hN2
    refine hK.out _ _ ?_ (fun hHeld => ?_)
    · exact ⟨(hbw.cell (World.block_lt_of_cell? _ _ ht)).trans ht, (HK.out _ hbw).1, (HK.out _ hbw).2⟩
    clear hK K
    try simp only [Act.put, List.setIfInBounds_toArray, List.set_cons_zero, List.set_cons_succ]
    refine rdk 4 rfl (fun K hK => ?_)
    go_simp
    refine (HL.out _ hbw _ _ HN2.out).mono ?_
    rintro e w3 ⟨rfl, hC⟩
    exact ⟨rfl, rfl, (Ch.of none hbw).trans hC (.inl rfl)⟩
end Go.Proofs.Ytcadeeldogknmaa
/- Closures, caught. -/
namespace Go.Proofs.Ytcadeeldogknmaa
open Go.RowKit

set_option maxHeartbeats 1600000 in
/-- rewrite's closure, caught -/
theorem caught_rewrite (cs : Array Value) (w : World) (y : Option Int) (R : World → Prop)
    (hdo : Calls Try.prog 23 cs (w.alloc (.cells #[.int .i64 0] 28)) fun e w1 => Caught y e ∧ (w1.cell? ⟨w.heap.size, 0, none⟩ = some (.int .i64 0) ∧ w1.frozen? ⟨w.heap.size, 0, none⟩ = false) ∧ R w1) :
    Calls Try.prog 22 #[.func (Fn.func 23) #[] cs] w fun e w' => e = .returned (.int .i64 (y.getD 0)) ∧
      ∃ w1, R w1 ∧ w1.cell? ⟨w.heap.size, 0, none⟩ = some (.int .i64 0) ∧ w' = w1.setCell ⟨w.heap.size, 0, none⟩ (.int .i64 (y.getD 0)) := by
  have hmf : ∀ (fn : Fn) (first cap : Array Value) (w : World), (Instr.makeFunc fn first cap).run Try.prog w = .ok (.func fn first cap) w := fun _ _ _ _ => rfl
  have HD := Lib.hid hdo
  clear hdo
  cases y with
  | none =>
    go_enter_defers Try.func22, Try.ntmps22
    go_wp2_with (go_at_call 23; refine HD.out.mono ?_; rintro e w1 ⟨rfl, ⟨hc, hz⟩, hR⟩)
    refine leaves_cons (f := 45) (args := #[.pointer (some ⟨w.heap.size, 0, none⟩)]) (by simp) (by simp [go_sem]) ?_
    refine (caught_idle ⟨w.heap.size, 0, none⟩ _).mono ?_
    rintro e u' w'' ⟨rfl, rfl, rfl⟩
    have hc' := World.cell?_setCell_same w1 ⟨w.heap.size, 0, none⟩ (.int .i64 0) hc
    simp [Leaves, settle, results, Try.results22, go_sem, hc']
    exact ⟨w1, hR, hc, rfl⟩
  | some y =>
    go_enter_defers Try.func22, Try.ntmps22
    go_wp2_with (go_at_call 23; refine HD.out.mono ?_; rintro e w1 ⟨rfl, ⟨hc, hz⟩, hR⟩)
    refine leaves_cons (f := 45) (args := #[.pointer (some ⟨w.heap.size, 0, none⟩)]) (by simp) (by simp [go_sem]) ?_
    refine (caught_panicking ⟨w.heap.size, 0, none⟩ 0 y [] _ hc hz).mono ?_
    rintro e u' w'' ⟨rfl, rfl, rfl⟩
    have hc' := World.cell?_setCell_same w1 ⟨w.heap.size, 0, none⟩ (.int .i64 y) hc
    simp [Leaves, settle, results, Try.results22, go_sem, hc']
    exact ⟨w1, hR, hc, rfl⟩
set_option maxHeartbeats 1600000 in
/-- count's closure, caught -/
theorem caught_count (cs : Array Value) (w : World) (y : Option Int) (R : World → Prop)
    (hdo : Calls Try.prog 49 cs (w.alloc (.cells #[.int .i64 0] 28)) fun e w1 => Caught y e ∧ (w1.cell? ⟨w.heap.size, 0, none⟩ = some (.int .i64 0) ∧ w1.frozen? ⟨w.heap.size, 0, none⟩ = false) ∧ R w1) :
    Calls Try.prog 22 #[.func (Fn.func 49) #[] cs] w fun e w' => e = .returned (.int .i64 (y.getD 0)) ∧
      ∃ w1, R w1 ∧ w1.cell? ⟨w.heap.size, 0, none⟩ = some (.int .i64 0) ∧ w' = w1.setCell ⟨w.heap.size, 0, none⟩ (.int .i64 (y.getD 0)) := by
  have hmf : ∀ (fn : Fn) (first cap : Array Value) (w : World), (Instr.makeFunc fn first cap).run Try.prog w = .ok (.func fn first cap) w := fun _ _ _ _ => rfl
  have HD := Lib.hid hdo
  clear hdo
  cases y with
  | none =>
    go_enter_defers Try.func22, Try.ntmps22
    go_wp2_with (go_at_call 49; refine HD.out.mono ?_; rintro e w1 ⟨rfl, ⟨hc, hz⟩, hR⟩)
    refine leaves_cons (f := 45) (args := #[.pointer (some ⟨w.heap.size, 0, none⟩)]) (by simp) (by simp [go_sem]) ?_
    refine (caught_idle ⟨w.heap.size, 0, none⟩ _).mono ?_
    rintro e u' w'' ⟨rfl, rfl, rfl⟩
    have hc' := World.cell?_setCell_same w1 ⟨w.heap.size, 0, none⟩ (.int .i64 0) hc
    simp [Leaves, settle, results, Try.results22, go_sem, hc']
    exact ⟨w1, hR, hc, rfl⟩
  | some y =>
    go_enter_defers Try.func22, Try.ntmps22
    go_wp2_with (go_at_call 49; refine HD.out.mono ?_; rintro e w1 ⟨rfl, ⟨hc, hz⟩, hR⟩)
    refine leaves_cons (f := 45) (args := #[.pointer (some ⟨w.heap.size, 0, none⟩)]) (by simp) (by simp [go_sem]) ?_
    refine (caught_panicking ⟨w.heap.size, 0, none⟩ 0 y [] _ hc hz).mono ?_
    rintro e u' w'' ⟨rfl, rfl, rfl⟩
    have hc' := World.cell?_setCell_same w1 ⟨w.heap.size, 0, none⟩ (.int .i64 y) hc
    simp [Leaves, settle, results, Try.results22, go_sem, hc']
    exact ⟨w1, hR, hc, rfl⟩
end Go.Proofs.Ytcadeeldogknmaa
