/- I2, G3, J1, K1, K2 as one. -/
import Derived.Laws.Cover1
import Derived.Laws.CopyRow
import Derived.Laws.Concat
import Derived.Test.YtlhbledakddbbaaGreatDoorZcD
/- Unlike programs that can be told have unlike lines and unlike texts. -/
namespace Go.Proofs.YtlhbledakddbbaaGreatDoor
open Go.RowKit

/-- the forms of statements that can be told, and their first lines -/
inductive ShS : St → List UInt8 → Prop where
  | set (nm : List UInt8) (hn : nameB nm = true) (e : Ex) (he : e.may = true) : ShS (.mk 1 nm [] e E0 .nil 0 0 .nil .nil) (nm ++ 32 :: 61 :: 32 :: (e.text ++ [59]))
  | put (nm : List UInt8) (hn : nameB nm = true) (a : Ex) (ha : a.may = true) (e : Ex) (he : e.may = true) : ShS (.mk 2 nm [] e a .nil 0 0 .nil .nil) (nm ++ 91 :: (a.text ++ 93 :: 32 :: 61 :: 32 :: (e.text ++ [59])))
  | ifs (e : Ex) (he : e.may = true) (bd el : Sts) (hb : bd.may = true) (hl : el.may = true) : ShS (.mk 3 [] [] e E0 .nil 0 0 bd el) ([105, 102] ++ 32 :: (e.text ++ [32, 123]))
  | whl (e : Ex) (he : e.may = true) (bd : Sts) (hb : bd.may = true) : ShS (.mk 4 [] [] e E0 .nil 0 0 bd .nil) ([119, 104, 105, 108, 101] ++ 32 :: (e.text ++ [32, 123]))
  | for (nm : List UInt8) (hn : nameB nm = true) (lo hi : Nat) (bd : Sts) (hb : bd.may = true) : ShS (.mk 5 nm [] E0 E0 .nil lo hi bd .nil) ([102, 111, 114] ++ 32 :: (nm ++ 32 :: (Lib.decDigits lo ++ 32 :: (Lib.decDigits hi ++ [32, 123]))))
  | call (nm : List UInt8) (hn : nameB nm = true) (g : Exs) (hg : g.may = true) : ShS (.mk 6 nm [] E0 E0 g 0 0 .nil .nil) (nm ++ 40 :: (Lib.join g.texts [44, 32] ++ 41 :: [59]))
  | calls (n0 : List UInt8) (h0 : nameB n0 = true) (ns : List (List UInt8)) (hs : namesB ns = true) (nm : List UInt8) (hn : nameB nm = true) (g : Exs) (hg : g.may = true) :
    ShS (.mk 6 nm (n0 :: ns) E0 E0 g 0 0 .nil .nil) (n0 ++ (Lib.joinTail [44, 32] ns ++ 32 :: 61 :: 32 :: (nm ++ 40 :: (Lib.join g.texts [44, 32] ++ 41 :: [59]))))
theorem none_E0 {x : Ex} (h : x.none = true) : x = E0 := by
  obtain ⟨op, wd, nm, ar⟩ := x
  unfold Ex.none at h
  rw [Bool.and_eq_true, Bool.and_eq_true, Bool.and_eq_true] at h
  obtain ⟨h1, h2, h3, h4⟩ := h
  have k1 : op = 0 := of_decide_eq_true h1
  have k2 : wd = 0 := of_decide_eq_true h2
  have k4 : ar.len = 0 := of_decide_eq_true h4
  have k3 : nm = [] := empty_nil h3
  rw [k1, k2, k3, Exs.len_zero k4]; rfl
theorem Sts.len_zero {a : Sts} (h : a.len = 0) : a = .nil := by cases a with | nil => rfl | cons => simp [Sts.len] at h
theorem St.shape {x : St} (h : x.may = true) : ShS x x.first := by
  obtain ⟨kd, nm, ns, e, a, g, lo, hi, bd, el⟩ := x
  have hno : kd < 1 ∨ 6 < kd ∨ kd = 1 ∨ kd = 2 ∨ kd = 3 ∨ kd = 4 ∨ kd = 5 ∨ kd = 6 := by omega
  rcases hno with k | k | rfl | rfl | rfl | rfl | rfl | rfl
  · rw [st_may_no kd (.inl k)] at h; cases h
  · rw [st_may_no kd (.inr k)] at h; cases h
  · rw [st_may_1] at h
    simp only [Bool.and_eq_true, St.isZero, decide_eq_true_eq] at h
    obtain ⟨⟨hn, he⟩, _, _, h3, _, h5, h6, h7, h8, h9, h10⟩ := h
    obtain rfl := List.length_eq_zero_iff.1 h3
    obtain rfl := none_E0 h5
    obtain rfl := Exs.len_zero h6
    subst h7; subst h8
    obtain rfl := Sts.len_zero h9
    obtain rfl := Sts.len_zero h10
    rw [show (St.mk 1 nm [] e E0 .nil 0 0 .nil .nil).first = nm ++ 32 :: 61 :: 32 :: (e.text ++ [59]) by rw [← first_eq, firstT, if_pos rfl]; simp]
    exact ShS.set nm hn e he
  · rw [st_may_2] at h
    simp only [Bool.and_eq_true, St.isZero, decide_eq_true_eq] at h
    obtain ⟨⟨hn, ha, he⟩, _, _, h3, _, _, h6, h7, h8, h9, h10⟩ := h
    obtain rfl := List.length_eq_zero_iff.1 h3
    obtain rfl := Exs.len_zero h6
    subst h7; subst h8
    obtain rfl := Sts.len_zero h9
    obtain rfl := Sts.len_zero h10
    rw [show (St.mk 2 nm [] e a .nil 0 0 .nil .nil).first = nm ++ 91 :: (a.text ++ 93 :: 32 :: 61 :: 32 :: (e.text ++ [59])) by rw [← first_eq, firstT, if_neg (by decide), if_pos rfl]; simp]
    exact ShS.put nm hn a ha e he
  · rw [st_may_3] at h
    simp only [Bool.and_eq_true, St.isZero, decide_eq_true_eq] at h
    obtain ⟨⟨he, hb, hl⟩, _, h2, h3, _, h5, h6, h7, h8, _⟩ := h
    obtain rfl := empty_nil h2
    obtain rfl := List.length_eq_zero_iff.1 h3
    obtain rfl := none_E0 h5
    obtain rfl := Exs.len_zero h6
    subst h7; subst h8
    rw [show (St.mk 3 [] [] e E0 .nil 0 0 bd el).first = [105, 102] ++ 32 :: (e.text ++ [32, 123]) by rw [← first_eq, firstT, if_neg (by decide), if_neg (by decide), if_pos rfl]; simp]
    exact ShS.ifs e he bd el hb hl
  · rw [st_may_4] at h
    simp only [Bool.and_eq_true, St.isZero, decide_eq_true_eq] at h
    obtain ⟨⟨he, hb⟩, _, h2, h3, _, h5, h6, h7, h8, _, h10⟩ := h
    obtain rfl := empty_nil h2
    obtain rfl := List.length_eq_zero_iff.1 h3
    obtain rfl := none_E0 h5
    obtain rfl := Exs.len_zero h6
    subst h7; subst h8
    obtain rfl := Sts.len_zero h10
    rw [show (St.mk 4 [] [] e E0 .nil 0 0 bd .nil).first = [119, 104, 105, 108, 101] ++ 32 :: (e.text ++ [32, 123]) by rw [← first_eq, firstT, if_neg (by decide), if_neg (by decide), if_neg (by decide), if_pos rfl]; simp]
    exact ShS.whl e he bd hb
  · rw [st_may_5] at h
    simp only [Bool.and_eq_true, St.isZero, decide_eq_true_eq] at h
    obtain ⟨⟨hn, hb⟩, _, _, h3, h4, h5, h6, _, _, _, h10⟩ := h
    obtain rfl := List.length_eq_zero_iff.1 h3
    obtain rfl := none_E0 h4
    obtain rfl := none_E0 h5
    obtain rfl := Exs.len_zero h6
    obtain rfl := Sts.len_zero h10
    rw [show (St.mk 5 nm [] E0 E0 .nil lo hi bd .nil).first = [102, 111, 114] ++ 32 :: (nm ++ 32 :: (Lib.decDigits lo ++ 32 :: (Lib.decDigits hi ++ [32, 123]))) by rw [← first_eq, firstT, if_neg (by decide), if_neg (by decide), if_neg (by decide), if_neg (by decide), if_pos rfl]; simp]
    exact ShS.for nm hn lo hi bd hb
  · rw [st_may_6] at h
    simp only [Bool.and_eq_true, St.isZero, decide_eq_true_eq] at h
    obtain ⟨⟨hn, hs, hg⟩, _, _, _, h4, h5, _, h7, h8, h9, h10⟩ := h
    obtain rfl := none_E0 h4
    obtain rfl := none_E0 h5
    subst h7; subst h8
    obtain rfl := Sts.len_zero h9
    obtain rfl := Sts.len_zero h10
    cases ns with
    | nil =>
      rw [show (St.mk 6 nm [] E0 E0 g 0 0 .nil .nil).first = nm ++ 40 :: (Lib.join g.texts [44, 32] ++ 41 :: [59]) by
        rw [← first_eq, firstT, if_neg (by decide), if_neg (by decide), if_neg (by decide), if_neg (by decide), if_neg (by decide), if_pos (show ([] : List (List UInt8)).length = 0 from rfl)]; simp]
      exact ShS.call nm hn g hg
    | cons n0 ns =>
      simp only [namesB, List.all_cons, Bool.and_eq_true] at hs
      rw [show (St.mk 6 nm (n0 :: ns) E0 E0 g 0 0 .nil .nil).first = n0 ++ (Lib.joinTail [44, 32] ns ++ 32 :: 61 :: 32 :: (nm ++ 40 :: (Lib.join g.texts [44, 32] ++ 41 :: [59]))) by
        rw [← first_eq, firstT, if_neg (by decide), if_neg (by decide), if_neg (by decide), if_neg (by decide), if_neg (by decide), if_neg (by simp), Lib.join_cons]; simp]
      exact ShS.calls n0 hs.1 ns hs.2 nm hn g hg
theorem may_block {kd : Int} {nm : List UInt8} {ns : List (List UInt8)} {e a : Ex} {g : Exs} {lo hi : Nat} {bd el : Sts} (h : (St.mk kd nm ns e a g lo hi bd el).may = true) : bd.may = true ∧ el.may = true ∧ ((kd = 3 ∨ kd = 4 ∨ kd = 5) ∨ (bd = .nil ∧ el = .nil)) := by
  have := St.shape h
  generalize (St.mk kd nm ns e a g lo hi bd el).first = t at *
  cases this with
  | set => exact ⟨rfl, rfl, .inr ⟨rfl, rfl⟩⟩
  | put => exact ⟨rfl, rfl, .inr ⟨rfl, rfl⟩⟩
  | ifs e he bd el hb hl => exact ⟨hb, hl, .inl (.inl rfl)⟩
  | whl e he bd hb => exact ⟨hb, rfl, .inl (.inr (.inl rfl))⟩
  | «for» nm hn lo hi bd hb => exact ⟨hb, rfl, .inl (.inr (.inr rfl))⟩
  | call => exact ⟨rfl, rfl, .inr ⟨rfl, rfl⟩⟩
  | calls => exact ⟨rfl, rfl, .inr ⟨rfl, rfl⟩⟩
end Go.Proofs.YtlhbledakddbbaaGreatDoor
/- How deep statements are. -/
namespace Go.Proofs.YtlhbledakddbbaaGreatDoor
open Go.RowKit

set_option maxHeartbeats 1600000 in
theorem isZero_any (x : Ex) (b o N : Nat) (w : World) (h : x.At w N b o) :
    Calls Tryz.prog 114 #[.pointer (some ⟨b, o, none⟩)] w fun e w' => e = .returned (.bool x.none) ∧ w = w' := by
  obtain ⟨op, wd, nm, ar⟩ := x
  obtain ⟨⟨h0, h1, h2, h3⟩, ⟨p, c, h4, s4⟩⟩ := h
  unfold Ex.none
  simp only [Ex.op, Ex.word, Ex.name, Ex.args]
  have hm := s4.1
  clear s4
  obtain ⟨n, hn0⟩ : ∃ n, ar.len = n := ⟨_, rfl⟩
  simp only [hn0] at hm h4 ⊢
  clear hn0
  have es : (str nm).toList.isEmpty = nm.isEmpty := by rw [Lib.toList_data, str_data]
  go_enter Tryz.func114, Tryz.ntmps114
  by_cases h1 : op = 0
  · subst h1
    by_cases h2 : wd = 0
    · subst h2
      cases hn : nm.isEmpty with
      | true =>
        rw [hn] at es
        have e0 : (str nm).toList = [] := by simpa using es
        by_cases h4 : n = 0
        · subst h4
          go_wp2_with fail
          go_ret
          exact ⟨rfl, rfl⟩
        · have h5 : ((n : Int) == 0) = false := by simp; omega
          go_wp2_with fail
          go_ret
          exact ⟨by simp, rfl⟩
      | false =>
        rw [hn] at es
        have e0 : ¬ (str nm).toList = [] := by intro h; rw [h] at es; cases es
        go_wp2_with fail
        go_ret
        exact ⟨by simp, rfl⟩
    · have h5 : ((wd : Int) == 0) = false := by simp; omega
      go_wp2_with fail
      go_ret
      exact ⟨by simp, rfl⟩
  · have h5 : (op == 0) = false := by simp; omega
    go_wp2_with fail
    go_ret
    exact ⟨by simp [h1], rfl⟩
theorem deepestE_any (l : Exs) (hl6 : l.size ≤ 1000000) (p : Option Addr) (c N : Nat) (w : World) (h : l.In w N p) :
    Calls Tryz.prog 81 #[.slice p l.len c, .func (.func 38) #[] #[]] w fun e w' => e = .returned (.int .i64 l.deepest) ∧ w = w' :=
  deepest_step _ (depth_to _) l (Nat.le_refl _) hl6 p c N w h
theorem exAt_ofOk {w : World} {N b o : Nat} {x : Ex} {p : Option Addr} {c : Nat} (h : x.Ok w N p) (h0 : w.cell? ⟨b, o, none⟩ = some (.int .i64 x.op)) (h1 : w.cell? ⟨b, o + 1, none⟩ = some (.int .u64 (x.word : Int))) (h2 : w.cell? ⟨b, o + 2, none⟩ = some (.string (str x.name))) (h3 : w.cell? ⟨b, o + 3, none⟩ = some (.slice p x.args.len c)) : x.At w N b o := by
  obtain ⟨op, wd, nm, ar⟩ := x
  exact ⟨⟨h0, h1, h2, h.2⟩, ⟨p, c, h3, h.1⟩⟩
def DeepTo (n : Nat) : Prop := ∀ (x : St), x.size < n → x.wt ≤ 1000000 → ∀ (b o N : Nat) (w : World), b < N → N ≤ w.heap.size → x.At w N b o →
    Calls Tryz.prog 75 #[.pointer (some ⟨b, o, none⟩)] w fun e w' => e = .returned (.int .i64 (x.deep : Nat)) ∧ Below w.heap.size w w'
set_option maxHeartbeats 1600000 in
theorem deepestS_step (n : Nat) (ih : DeepTo n) (l : Sts) (hl : l.size ≤ n) (hl6 : l.wt ≤ 1000000) (p : Option Addr) (c N : Nat) (w : World) (h : l.In w N p) (hN : N ≤ w.heap.size) :
    Calls Tryz.prog 74 #[.slice p l.len c, .func (.func 75) #[] #[]] w fun e w' => e = .returned (.int .i64 (l.deep : Nat)) ∧ Below w.heap.size w w' := by
  have IH := Lib.hid ih
  have S1 := Lib.hid h
  have hm1 := h.1
  have HNN := Lib.hid hN
  clear ih h hN
  go_enter Tryz.func74, Tryz.ntmps74
  go_wp2_with fail
  go_loopw [5, 9] (fun d i wr => ∃ (k m : Nat) (r : Sts), d = .int .i64 m ∧ i = .int .i64 k ∧ k + r.len = l.len ∧ r.size ≤ n ∧ r.wt ≤ 1000000 ∧ Hid (∀ b o, p = some ⟨b, o, none⟩ → l.At w N b o → r.At w N b (o + k * 16)) ∧ Hid (l.deep = max m r.deep) ∧ m ≤ 1000000 ∧ Hid (Below w.heap.size w wr)) (fun _ i _ => l.len - (intOf i).toNat)
  case atStart => exact ⟨0, 0, l, rfl, rfl, by omega, hl, hl6, Lib.hid fun b o _ h => by rw [Nat.zero_mul]; exact h, Lib.hid (by omega), by omega, Lib.hid (Below.refl _ _)⟩
  case round =>
    obtain ⟨k, m, r, rfl, rfl, hk, hrs, hr6, hat, hE, hm6, hB⟩ := hrel
    cases r with
    | nil =>
      simp only [Sts.len] at hk
      have hge : ¬ k < l.len := by omega
      go_wp2_with fail
      go_ret
      exact ⟨ret_int (by rw [hE.out]; simp [Sts.deep]), hB.out⟩
    | cons x r =>
      simp only [Sts.len] at hk
      simp only [Sts.size] at hrs
      simp only [Sts.wt] at hr6
      have hlt : k < l.len := by omega
      rcases S1.out.2 with h30 | ⟨b, o, rfl, hb, ha⟩
      · omega
      obtain ⟨hx, hr⟩ := hat.out b o rfl ha
      have HR := Lib.hid hr
      have hxd := St.deep_le x
      have HC := Lib.hid (IH.out x (by omega) (by omega) b (o + k * 16) wr.heap.size wr (by have := hB.out.size; have := HNN.out; omega) (Nat.le_refl _) (St.At.later (hB.out.mono HNN.out) (Nat.le_trans HNN.out hB.out.size) x b _ hb hx))
      have hmx : max (m : Int) (x.deep : Int) = ((max m x.deep : Nat) : Int) := by omega
      have HE := Lib.hid (show l.deep = max (max m x.deep) r.deep by rw [hE.out, Sts.deep]; omega)
      generalize x.deep = dx at HC HE hxd hmx
      clear hx hr ha hE
      go_wp2_with fail
      refine HC.out.mono ?_
      rintro e w2 ⟨rfl, hB2⟩
      have HB2 := Lib.hid (hB.out.trans (hB2.mono hB.out.size))
      clear hB2 HC
      go_wp2_with fail
      go_roundw
      case rel => exact ⟨k + 1, max m dx, r, by rw [← hmx], by go_num, by omega, by omega, by omega, Lib.hid fun b' o' e _ => by cases e; rw [show o + (k + 1) * 16 = o + k * 16 + 16 by omega]; exact HR.out, HE, by omega, HB2⟩
      case measure => simp [intOf]; omega
set_option maxRecDepth 100000 in
set_option maxHeartbeats 6400000 in
theorem deep_step (n : Nat) (ih : DeepTo n) : DeepTo (n + 1) := by
  intro x hxs hx6 b o N w hb hN hx
  obtain ⟨s, c1, ok1⟩ := St.At.openP hx
  obtain ⟨kd, nm, ns, e, a, g, lo, hi, bd, el⟩ := x
  simp only [St.size] at hxs
  simp only [St.wt] at hx6
  have x11 : w.cell? ⟨b, o + 11, none⟩ = some (.slice s.pg g.len s.cg) := c1 11 _ rfl
  have x14 : w.cell? ⟨b, o + 14, none⟩ = some (.slice s.pb bd.len s.cb) := c1 14 _ rfl
  have x15 : w.cell? ⟨b, o + 15, none⟩ = some (.slice s.pl el.len s.cl) := c1 15 _ rfl
  have hbw : b < w.heap.size := Nat.lt_of_lt_of_le hb hN
  have HEt := Lib.hid (fun (w1 : World) (hB : Below w.heap.size w w1) => Ex.At.later (hB.mono hN) (Nat.le_refl N) e b (o + 3) hb (show e.At w N b (o + 3) from exAt_ofOk ok1.2.1 (c1 3 _ rfl) (c1 4 _ rfl) (c1 5 _ rfl) (c1 6 _ rfl)))
  have HAt := Lib.hid (fun (w1 : World) (hB : Below w.heap.size w w1) => Ex.At.later (hB.mono hN) (Nat.le_refl N) a b (o + 7) hb (show a.At w N b (o + 7) from exAt_ofOk ok1.2.2.1 (c1 7 _ rfl) (c1 8 _ rfl) (c1 9 _ rfl) (c1 10 _ rfl)))
  have HGd := Lib.hid (fun (w1 : World) (hB : Below w.heap.size w w1) => deepestE_any g (by omega) s.pg s.cg N w1 (ok1.2.2.2.1.later (hB.mono hN) (Nat.le_refl N)))
  have HBd := Lib.hid (fun (w1 : World) (hB : Below w.heap.size w w1) => deepestS_step n ih bd (by omega) (by omega) s.pb s.cb N w1 (ok1.2.2.2.2.1.later (hB.mono hN) (Nat.le_refl N)) (Nat.le_trans hN hB.size))
  have HEl := Lib.hid (fun (w1 : World) (hB : Below w.heap.size w w1) => deepestS_step n ih el (by omega) (by omega) s.pl s.cl N w1 (ok1.2.2.2.2.2.1.later (hB.mono hN) (Nat.le_refl N)) (Nat.le_trans hN hB.size))
  have b1 := Sts.deep_le bd
  have b2 := Sts.deep_le el
  have b3 := Ex.dp_le e
  have b4 := Ex.dp_le a
  have b5 := Exs.deepest_le g
  simp only [St.deep]
  generalize bd.deep = db at HBd b1 ⊢
  generalize el.deep = de at HEl b2 ⊢
  generalize g.deepest = dg at HGd b5 ⊢
  obtain ⟨m1, hm1e⟩ : ∃ m, m = max (max dg db) de := ⟨_, rfl⟩
  have hmx : ∀ (w : World) (ts : Array TypeId) (t : TypeId), (Builtin.max_ ts t #[.int .i64 (dg : Int), .int .i64 (db : Int), .int .i64 (de : Int)]).run Tryz.prog w = .ok (.int .i64 (m1 : Int)) w := by
    intro w ts t
    rw [run_max_int3]
    have hq : (if (de : Int) > (if (db : Int) > dg then (db : Int) else dg) then (de : Int) else (if (db : Int) > dg then (db : Int) else dg)) = (m1 : Int) := by (repeat' split) <;> omega
    rw [hq]
  have hm1b : m1 ≤ 1000000 := by omega
  have HM1 := Lib.hid hm1e
  clear hm1e c1 ok1 hx ih
  go_enter Tryz.func75, Tryz.ntmps75
  go_upto_region 1 with fail
  try simp only [Act.put]
  have HS1 : Below w.heap.size w w.drew := (Below.refl _ _).drew
  refine wp_region_held_drew (S := fun W => Below w.heap.size w W ∧ W.cell? ⟨b, o + 11, none⟩ = some (.slice s.pg g.len s.cg) ∧ W.cell? ⟨b, o + 14, none⟩ = some (.slice s.pb bd.len s.cb) ∧ W.cell? ⟨b, o + 15, none⟩ = some (.slice s.pl el.len s.cl)) (by kernel_rfl) ?_ (fun hHeld => ?_)
  · exact ⟨HS1, (HS1.cell hbw).trans x11, (HS1.cell hbw).trans x14, (HS1.cell hbw).trans x15⟩
  refine wpAnyH_take (i := 0) (oi := ⟨some 4, .move (.tmp 0), 145, "deep.go:20", #[], none⟩) (v := ?_) rfl (by kernel_rfl) (by kernel_rfl) (by kernel_rfl) (fun _ _ _ h => h) (Or.inl ⟨by rfl, ?_⟩) (by assumption) ?_
  rotate_left
  · (intro w hSw; (try dsimp only at hSw); go_simp; try with_reducible rfl)
  try simp only [Act.put, List.setIfInBounds_toArray, List.set_cons_zero, List.set_cons_succ]
  refine wpAnyH_take (i := 1) (oi := ⟨some 5, .nilCheck (.tmp 4), 0, "deep.go:20", #[⟨0, .data⟩], none⟩) (v := ?_) rfl (by kernel_rfl) (by kernel_rfl) (by kernel_rfl) (fun _ _ _ h => h) (Or.inl ⟨by rfl, ?_⟩) (by assumption) ?_
  rotate_left
  · (intro w hSw; (try dsimp only at hSw); go_simp; try with_reducible rfl)
  try simp only [Act.put, List.setIfInBounds_toArray, List.set_cons_zero, List.set_cons_succ]
  refine wpAnyH_take (i := 2) (oi := ⟨some 6, .fieldAddr 54 (.tmp 5) 5, 0, "deep.go:20", #[⟨1, .data⟩], none⟩) (v := ?_) rfl (by kernel_rfl) (by kernel_rfl) (by kernel_rfl) (fun _ _ _ h => h) (Or.inl ⟨by rfl, ?_⟩) (by assumption) ?_
  rotate_left
  · (intro w hSw; (try dsimp only at hSw); go_simp; try with_reducible rfl)
  try simp only [Act.put, List.setIfInBounds_toArray, List.set_cons_zero, List.set_cons_succ]
  refine wpAnyH_take (i := 3) (oi := ⟨some 7, .load 24 (.tmp 6), 24, "deep.go:20", #[⟨2, .data⟩], none⟩) (v := ?_) rfl (by kernel_rfl) (by kernel_rfl) (by kernel_rfl) (fun _ _ _ h => h) (Or.inl ⟨by rfl, ?_⟩) (by assumption) ?_
  rotate_left
  · (intro w hSw; (try dsimp only at hSw); go_simp; try with_reducible rfl)
  try simp only [Act.put, List.setIfInBounds_toArray, List.set_cons_zero, List.set_cons_succ]
  refine wpAnyH_take (i := 5) (oi := ⟨some 9, .move (.tmp 0), 145, "deep.go:20", #[], none⟩) (v := ?_) rfl (by kernel_rfl) (by kernel_rfl) (by kernel_rfl) (fun _ _ _ h => h) (Or.inl ⟨by rfl, ?_⟩) (by assumption) ?_
  rotate_left
  · (intro w hSw; (try dsimp only at hSw); go_simp; try with_reducible rfl)
  try simp only [Act.put, List.setIfInBounds_toArray, List.set_cons_zero, List.set_cons_succ]
  refine wpAnyH_take (i := 6) (oi := ⟨some 10, .nilCheck (.tmp 9), 0, "deep.go:20", #[⟨5, .data⟩], none⟩) (v := ?_) rfl (by kernel_rfl) (by kernel_rfl) (by kernel_rfl) (fun _ _ _ h => h) (Or.inl ⟨by rfl, ?_⟩) (by assumption) ?_
  rotate_left
  · (intro w hSw; (try dsimp only at hSw); go_simp; try with_reducible rfl)
  try simp only [Act.put, List.setIfInBounds_toArray, List.set_cons_zero, List.set_cons_succ]
  refine wpAnyH_take (i := 7) (oi := ⟨some 11, .fieldAddr 54 (.tmp 10) 8, 0, "deep.go:20", #[⟨6, .data⟩], none⟩) (v := ?_) rfl (by kernel_rfl) (by kernel_rfl) (by kernel_rfl) (fun _ _ _ h => h) (Or.inl ⟨by rfl, ?_⟩) (by assumption) ?_
  rotate_left
  · (intro w hSw; (try dsimp only at hSw); go_simp; try with_reducible rfl)
  try simp only [Act.put, List.setIfInBounds_toArray, List.set_cons_zero, List.set_cons_succ]
  refine wpAnyH_take (i := 8) (oi := ⟨some 12, .load 47 (.tmp 11), 47, "deep.go:20", #[⟨7, .data⟩], none⟩) (v := ?_) rfl (by kernel_rfl) (by kernel_rfl) (by kernel_rfl) (fun _ _ _ h => h) (Or.inl ⟨by rfl, ?_⟩) (by assumption) ?_
  rotate_left
  · (intro w hSw; (try dsimp only at hSw); go_simp; try with_reducible rfl)
  try simp only [Act.put, List.setIfInBounds_toArray, List.set_cons_zero, List.set_cons_succ]
  refine wpAnyH_take (i := 10) (oi := ⟨some 14, .move (.tmp 0), 145, "deep.go:20", #[], none⟩) (v := ?_) rfl (by kernel_rfl) (by kernel_rfl) (by kernel_rfl) (fun _ _ _ h => h) (Or.inl ⟨by rfl, ?_⟩) (by assumption) ?_
  rotate_left
  · (intro w hSw; (try dsimp only at hSw); go_simp; try with_reducible rfl)
  try simp only [Act.put, List.setIfInBounds_toArray, List.set_cons_zero, List.set_cons_succ]
  refine wpAnyH_take (i := 11) (oi := ⟨some 15, .nilCheck (.tmp 14), 0, "deep.go:20", #[⟨10, .data⟩], none⟩) (v := ?_) rfl (by kernel_rfl) (by kernel_rfl) (by kernel_rfl) (fun _ _ _ h => h) (Or.inl ⟨by rfl, ?_⟩) (by assumption) ?_
  rotate_left
  · (intro w hSw; (try dsimp only at hSw); go_simp; try with_reducible rfl)
  try simp only [Act.put, List.setIfInBounds_toArray, List.set_cons_zero, List.set_cons_succ]
  refine wpAnyH_take (i := 12) (oi := ⟨some 16, .fieldAddr 54 (.tmp 15) 9, 0, "deep.go:20", #[⟨11, .data⟩], none⟩) (v := ?_) rfl (by kernel_rfl) (by kernel_rfl) (by kernel_rfl) (fun _ _ _ h => h) (Or.inl ⟨by rfl, ?_⟩) (by assumption) ?_
  rotate_left
  · (intro w hSw; (try dsimp only at hSw); go_simp; try with_reducible rfl)
  try simp only [Act.put, List.setIfInBounds_toArray, List.set_cons_zero, List.set_cons_succ]
  refine wpAnyH_take (i := 13) (oi := ⟨some 17, .load 47 (.tmp 16), 47, "deep.go:20", #[⟨12, .data⟩], none⟩) (v := ?_) rfl (by kernel_rfl) (by kernel_rfl) (by kernel_rfl) (fun _ _ _ h => h) (Or.inl ⟨by rfl, ?_⟩) (by assumption) ?_
  rotate_left
  · (intro w hSw; (try dsimp only at hSw); go_simp; try with_reducible rfl)
  try simp only [Act.put, List.setIfInBounds_toArray, List.set_cons_zero, List.set_cons_succ]
  refine wpAnyH_ready (rs := [4]) (by kernel_rfl) (by simp) ?_
  refine AllReadyH.cons (o := ⟨some 8, .call { callee := .value (.func 81), args := #[.tmp 7, .func 38], argTypes := #[24, 72] }, 3, "deep.go:20", #[⟨3, .data⟩], none⟩) rfl (fun K hK => ?_) AllReadyH.nil
  go_simp
  refine (HGd.out _ HS1).mono ?_
  rintro z w2 ⟨rfl, rfl⟩
  refine hK.out _ _ ?_ (fun hHeld => ?_)
  · exact ⟨HS1, (HS1.cell hbw).trans x11, (HS1.cell hbw).trans x14, (HS1.cell hbw).trans x15⟩
  clear hK K
  try simp only [Act.put, List.setIfInBounds_toArray, List.set_cons_zero, List.set_cons_succ]
  refine wpAnyH_ready (rs := [9]) (by kernel_rfl) (by simp) ?_
  refine AllReadyH.cons (o := ⟨some 13, .call { callee := .value (.func 74), args := #[.tmp 12, .func 75], argTypes := #[47, 121] }, 3, "deep.go:20", #[⟨8, .data⟩, ⟨4, .chain⟩], none⟩) rfl (fun K hK => ?_) AllReadyH.nil
  go_simp
  refine (HBd.out _ HS1).mono ?_
  rintro z w3 ⟨rfl, hB2⟩
  replace HS1 := HS1.trans (hB2.mono HS1.size)
  clear hB2
  refine hK.out _ _ ?_ (fun hHeld => ?_)
  · exact ⟨HS1, (HS1.cell hbw).trans x11, (HS1.cell hbw).trans x14, (HS1.cell hbw).trans x15⟩
  clear hK K
  try simp only [Act.put, List.setIfInBounds_toArray, List.set_cons_zero, List.set_cons_succ]
  refine wpAnyH_ready (rs := [14]) (by kernel_rfl) (by simp) ?_
  refine AllReadyH.cons (o := ⟨some 18, .call { callee := .value (.func 74), args := #[.tmp 17, .func 75], argTypes := #[47, 121] }, 3, "deep.go:20", #[⟨13, .data⟩, ⟨9, .chain⟩], none⟩) rfl (fun K hK => ?_) AllReadyH.nil
  go_simp
  refine (HEl.out _ HS1).mono ?_
  rintro z w4 ⟨rfl, hB2⟩
  replace HS1 := HS1.trans (hB2.mono HS1.size)
  clear hB2
  refine hK.out _ _ ?_ (fun hHeld => ?_)
  · exact ⟨HS1, (HS1.cell hbw).trans x11, (HS1.cell hbw).trans x14, (HS1.cell hbw).trans x15⟩
  clear hK K
  try simp only [Act.put, List.setIfInBounds_toArray, List.set_cons_zero, List.set_cons_succ]
  refine wpAnyH_take (i := 15) (oi := ⟨some 19, .call { callee := .builtin .max, args := #[.tmp 8, .tmp 13, .tmp 18], argTypes := #[3, 3, 3] }, 3, "deep.go:20", #[⟨4, .data⟩, ⟨9, .data⟩, ⟨14, .data⟩], none⟩) (v := .int .i64 (m1 : Nat)) rfl (by kernel_rfl) (by kernel_rfl) (by kernel_rfl) (fun _ _ _ h => h) (Or.inl ⟨by rfl, ?_⟩) (by assumption) ?_
  · (intro w hSw; (try dsimp only at hSw); go_simp; (try rw [hmx]); (try rfl))
  try simp only [Act.put, List.setIfInBounds_toArray, List.set_cons_zero, List.set_cons_succ]
  refine wpAnyH_take (i := 16) (oi := ⟨some 3, .assign (.tmp 19), 3, "deep.go:20", #[⟨15, .data⟩, ⟨14, .chain⟩, ⟨0, .phase⟩, ⟨1, .phase⟩, ⟨2, .phase⟩, ⟨3, .phase⟩, ⟨4, .phase⟩, ⟨5, .phase⟩, ⟨6, .phase⟩, ⟨7, .phase⟩, ⟨8, .phase⟩, ⟨9, .phase⟩, ⟨10, .phase⟩, ⟨11, .phase⟩, ⟨12, .phase⟩, ⟨13, .phase⟩, ⟨14, .phase⟩, ⟨15, .phase⟩], none⟩) (v := ?_) rfl (by kernel_rfl) (by kernel_rfl) (by kernel_rfl) (fun _ _ _ h => h) (Or.inl ⟨by rfl, ?_⟩) (by assumption) ?_
  rotate_left
  · (intro w hSw; (try dsimp only at hSw); go_simp; try with_reducible rfl)
  try simp only [Act.put, List.setIfInBounds_toArray, List.set_cons_zero, List.set_cons_succ]
  refine wpAnyH_done (by kernel_rfl) ?_ _
  have HA20 := Lib.hid (HEt.out _ HS1)
  go_wp2_with fail
  refine (isZero_any e b (o + 3) N _ HA20.out).mono ?_
  rintro z w' ⟨rfl, rfl⟩
  cases hne : e.none with
  | true =>
    have dqe : e.dp = 0 := by unfold Ex.dp; rw [hne]; rfl
    have HA21 := Lib.hid (HAt.out _ HS1)
    go_wp2_with fail
    refine (isZero_any a b (o + 7) N _ HA21.out).mono ?_
    rintro z w' ⟨rfl, rfl⟩
    cases hna : a.none with
    | true =>
      have dqa : a.dp = 0 := by unfold Ex.dp; rw [hna]; rfl
      have HFin := Lib.hid (show max (max (max (max db de) dg) e.dp) a.dp + 1 = 1 + m1 by have := HM1.out; (try have t20 := HM20.out); (try have t21 := HM21.out); (try have t22 := HM22.out); (try have t23 := HM23.out); (try have t24 := HM24.out); (try have t25 := HM25.out); (try have t26 := HM26.out); (try have t27 := HM27.out); (try have t28 := HM28.out); (try have t29 := HM29.out); omega)
      have hz1 : IntKind.i64.wrap (1 + (m1 : Int)) = 1 + (m1 : Int) := IntWalk.i64_in _ (by omega)
      go_wp2_with fail
      go_ret
      exact ⟨ret_int (by rw [HFin.out]; omega), HS1⟩
    | false =>
      have dqa : a.dp = a.depth := by unfold Ex.dp; rw [hna]; rfl
      have HD := Lib.hid (depthOf_any a (by omega) b (o + 7) N _ hb HA21.out)
      rw [← dqa] at HD
      obtain ⟨dav, hdav⟩ : ∃ d, a.dp = d := ⟨_, rfl⟩
      rw [hdav] at HD
      obtain ⟨m21, hm21⟩ : ∃ m, m = max m1 dav := ⟨_, rfl⟩
      have hx21 : max (m1 : Int) (dav : Int) = (m21 : Int) := by omega
      have hy21 : m21 ≤ 1000000 := by omega
      have HM21 := Lib.hid hm21
      clear hm21
      go_wp2_with fail
      refine HD.out.mono ?_
      rintro z w' ⟨rfl, rfl⟩
      have HFin := Lib.hid (show max (max (max (max db de) dg) e.dp) a.dp + 1 = 1 + m21 by have := HM1.out; (try have t20 := HM20.out); (try have t21 := HM21.out); (try have t22 := HM22.out); (try have t23 := HM23.out); (try have t24 := HM24.out); (try have t25 := HM25.out); (try have t26 := HM26.out); (try have t27 := HM27.out); (try have t28 := HM28.out); (try have t29 := HM29.out); omega)
      have hz1 : IntKind.i64.wrap (1 + (m21 : Int)) = 1 + (m21 : Int) := IntWalk.i64_in _ (by omega)
      go_wp2_with fail
      go_ret
      exact ⟨ret_int (by rw [HFin.out]; omega), HS1⟩
  | false =>
    have dqe : e.dp = e.depth := by unfold Ex.dp; rw [hne]; rfl
    have HD := Lib.hid (depthOf_any e (by omega) b (o + 3) N _ hb HA20.out)
    rw [← dqe] at HD
    obtain ⟨dev, hdev⟩ : ∃ d, e.dp = d := ⟨_, rfl⟩
    rw [hdev] at HD
    obtain ⟨m20, hm20⟩ : ∃ m, m = max m1 dev := ⟨_, rfl⟩
    have hx20 : max (m1 : Int) (dev : Int) = (m20 : Int) := by omega
    have hy20 : m20 ≤ 1000000 := by omega
    have HM20 := Lib.hid hm20
    clear hm20
    go_wp2_with fail
    refine HD.out.mono ?_
    rintro z w' ⟨rfl, rfl⟩
    have HA22 := Lib.hid (HAt.out _ HS1)
    go_wp2_with fail
    refine (isZero_any a b (o + 7) N _ HA22.out).mono ?_
    rintro z w' ⟨rfl, rfl⟩
    cases hna : a.none with
    | true =>
      have dqa : a.dp = 0 := by unfold Ex.dp; rw [hna]; rfl
      have HFin := Lib.hid (show max (max (max (max db de) dg) e.dp) a.dp + 1 = 1 + m20 by have := HM1.out; (try have t20 := HM20.out); (try have t21 := HM21.out); (try have t22 := HM22.out); (try have t23 := HM23.out); (try have t24 := HM24.out); (try have t25 := HM25.out); (try have t26 := HM26.out); (try have t27 := HM27.out); (try have t28 := HM28.out); (try have t29 := HM29.out); omega)
      have hz1 : IntKind.i64.wrap (1 + (m20 : Int)) = 1 + (m20 : Int) := IntWalk.i64_in _ (by omega)
      go_wp2_with fail
      go_ret
      exact ⟨ret_int (by rw [HFin.out]; omega), HS1⟩
    | false =>
      have dqa : a.dp = a.depth := by unfold Ex.dp; rw [hna]; rfl
      have HD := Lib.hid (depthOf_any a (by omega) b (o + 7) N _ hb HA22.out)
      rw [← dqa] at HD
      obtain ⟨dav, hdav⟩ : ∃ d, a.dp = d := ⟨_, rfl⟩
      rw [hdav] at HD
      obtain ⟨m22, hm22⟩ : ∃ m, m = max m20 dav := ⟨_, rfl⟩
      have hx22 : max (m20 : Int) (dav : Int) = (m22 : Int) := by omega
      have hy22 : m22 ≤ 1000000 := by omega
      have HM22 := Lib.hid hm22
      clear hm22
      go_wp2_with fail
      refine HD.out.mono ?_
      rintro z w' ⟨rfl, rfl⟩
      have HFin := Lib.hid (show max (max (max (max db de) dg) e.dp) a.dp + 1 = 1 + m22 by have := HM1.out; (try have t20 := HM20.out); (try have t21 := HM21.out); (try have t22 := HM22.out); (try have t23 := HM23.out); (try have t24 := HM24.out); (try have t25 := HM25.out); (try have t26 := HM26.out); (try have t27 := HM27.out); (try have t28 := HM28.out); (try have t29 := HM29.out); omega)
      have hz1 : IntKind.i64.wrap (1 + (m22 : Int)) = 1 + (m22 : Int) := IntWalk.i64_in _ (by omega)
      go_wp2_with fail
      go_ret
      exact ⟨ret_int (by rw [HFin.out]; omega), HS1⟩
theorem deep_to : ∀ n, DeepTo n
  | 0 => fun _ h => absurd h (Nat.not_lt_zero _)
  | n + 1 => deep_step n (deep_to n)
set_option maxHeartbeats 1600000 in
theorem deepS_any (l : Sts) (h6 : l.wt ≤ 1000000) (p : Option Addr) (c N : Nat) (w : World) (h : l.In w N p) (hN : N ≤ w.heap.size) :
    Calls Tryz.prog 29 #[.slice p l.len c] w fun e w' => e = .returned (.int .i64 (l.deep : Nat)) ∧ Below w.heap.size w w' := by
  have HD := Lib.hid (deepestS_step _ (deep_to _) l (Nat.le_refl _) h6 p c N w h hN)
  clear h
  go_enter Tryz.func29, Tryz.ntmps29
  go_wp2_with fail
  refine HD.out.mono ?_
  rintro e w' ⟨rfl, hB⟩
  have HB := Lib.hid hB
  clear hB
  go_wp2_with fail
  go_ret
  exact ⟨rfl, HB.out⟩
end Go.Proofs.YtlhbledakddbbaaGreatDoor
/- Which statements can be told, the program's own: lists, and what a statement has besides. -/
namespace Go.Proofs.YtlhbledakddbbaaGreatDoor
open Go.RowKit

/-- cells written into a row -/
def putA (cur : Array Value) (o : Nat) (vs : Array Value) : Array Value := (cur.toList.take o ++ vs.toList ++ cur.toList.drop (o + vs.size)).toArray
theorem but_row (w : World) (g : Nat) (cs : Array Value) : But g w (w.setRow g cs) :=
  ⟨rfl, rfl, rfl, by simp [World.setRow], fun k _ hk => setRow_other w g k _ (fun e => hk (by omega))⟩
/-- a store into a block of one's own: what lies there behind it, all else as it was -/
theorem wpl_put {P : Program} {ops : Array Oper} {rest : List Oper} {op : Oper} {a : Act} {w : World} {Q : Exit → Act → World → Prop} (hgd : op.guard = none) (ty : TypeId) (x y : Operand) (ho : op.op = .store ty x y) (hd : op.dst = none)
    (g o : Nat) (v : Value) (hx : a.eval x = .pointer (some ⟨g, o, none⟩)) (hy : a.eval y = v) (cur : Array Value) (t : TypeId) (hg : w.heap[g]? = some (.cells cur t (0, 0)))
    (hl : o + v.cells.size ≤ cur.size) (hi : (P.info? ty).map (·.size) = some v.cells.size) (h1 : v.cells.toList.all (·.oneCell') = true)
    (h : ∀ w', w'.heap[g]? = some (.cells (putA cur o v.cells) t (0, 0)) → But g w w' → wpList P ops Q rest a w') : wpList P ops Q (op :: rest) a w :=
  wpList_plain hgd fun _ hK => by
    have hs : (storeVar ty ⟨g, o, none⟩ v).run P w = .ok () (w.setRow g (putA cur o v.cells)) := by
      have := run_storeCells_at (P := P) g o t v.cells.toList 0 cur w hg (by simp; omega) (fun u hu => (List.all_eq_true.1 h1) u hu)
      cases hq : P.info? ty with
      | none => simp [hq] at hi
      | some i =>
        have hz : v.cells.size = i.size := by simp [hq] at hi; omega
        simp only [Nat.add_zero, Array.length_toList] at this
        simp [storeVar, sizeOf, typeInfo, hq, hz, this, putA]
    unfold Oper.wp execOp
    simp only [ho, hx, hy, Instr.storeAt, Instr.sureAddr, Sem.run_bind, Sem.run_pure, Result.andThen_ok, hs]
    refine hK _ _ ?_
    rw [hd]
    exact h _ (setRow_heap w g _ _ t _ hg) (but_row w g _)
/-- a whole struct loaded by a guarded operation that is wanted -/
theorem wpl_load_if {P : Program} {ops : Array Oper} {rest : List Oper} {op : Oper} {a : Act} {w : World} {Q : Exit → Act → World → Prop} (hw : Region.wanted op (yielded ops a.tmps) = true) (ty : TypeId) (x : Operand) (ho : op.op = .load ty x)
    (b o : Nat) (hx : a.eval x = .pointer (some ⟨b, o, none⟩)) (A : Array Value) (d : TypeDesc) (hc : w.rangeAt b o A.toList)
    (hu : P.underlying ty = some d) (hd : d.isRow = true) (hi : (P.info? ty).map (·.size) = some A.size)
    (h : wpList P ops Q rest (a.put op.dst (.agg A)) w) : wpList P ops Q (op :: rest) a w := by
  refine wpList_step fun K hK => ?_
  rw [if_pos hw]
  refine wp_load_mid ty x ho b o hx A.toList d hc hu hd (by rw [hi]; simp) ?_
  simp only [Array.toArray_toList]
  exact hK _ _ h
theorem But.below {g B : Nat} {w w1 w2 : World} (h : But g w1 w2) (hB : Below B w w1) (hg : B ≤ g) (hz : B ≤ w1.heap.size) : Below B w w2 :=
  hB.trans ⟨h.os, h.tape, h.output, h.size, fun k hk => by
    exact h.block k (by omega) (by omega)⟩
theorem range_block {w : World} {g : Nat} {A : Array Value} {t : TypeId} {fz : Nat × Nat} (h : w.heap[g]? = some (.cells A t fz)) : w.rangeAt g 0 A.toList := by
  intro j v hv
  rw [Nat.zero_add]
  rw [← Array.getElem?_toList] at *
  simp [World.cell?, h, ← Array.getElem?_toList, hv]
theorem cell_block {w : World} {g : Nat} {A : Array Value} {t : TypeId} {fz : Nat × Nat} (h : w.heap[g]? = some (.cells A t fz)) {j : Nat} {v : Value} (hv : A[j]? = some v) : w.cell? ⟨g, j, none⟩ = some v := by
  simp [World.cell?, h, hv]

set_option maxHeartbeats 1600000 in
theorem everyStr_any (ns : List (List UInt8)) (p : Option Addr) (c N : Nat) (w : World) (h : RowIn N (StrAt w) 1 ns p) :
    Calls Tryz.prog 94 #[.slice p ns.length c, .func (.func 78) #[] #[]] w fun e w' => e = .returned (.bool (namesB ns)) ∧ w = w' := by
  rcases h with ⟨hm, h0 | ⟨b, o, rfl, hb, ha⟩⟩
  · go_enter Tryz.func94, Tryz.ntmps94
    go_wp2_with fail
    go_loopw [9] (fun i wr => i = .int .i64 0 ∧ wr = w) (fun _ _ => 0)
    case atStart => exact ⟨rfl, rfl⟩
    case round =>
      obtain ⟨rfl, rfl⟩ := hrel
      have hge : ¬ 0 < ns.length := by omega
      go_wp2_with fail
      go_ret
      exact ⟨ret_bool (by cases ns with | nil => rfl | cons => simp at h0), rfl⟩
  · have HA := Lib.hid ha
    clear ha
    go_enter Tryz.func94, Tryz.ntmps94
    go_wp2_with fail
    go_loopw [9] (fun i wr => ∃ (k : Nat) (r : List (List UInt8)), i = .int .i64 k ∧ k + r.length = ns.length ∧ Hid (Row (StrAt w) 1 r b (o + k * 1)) ∧ Hid (namesB ns = namesB r) ∧ wr = w) (fun i _ => ns.length - (intOf i).toNat)
    case atStart => exact ⟨0, ns, rfl, by omega, Lib.hid (by simpa using HA.out), Lib.hid rfl, rfl⟩
    case round =>
      obtain ⟨k, r, rfl, hk, hr, hE, rfl⟩ := hrel
      cases r with
      | nil =>
        simp only [List.length_nil] at hk
        have hge : ¬ k < ns.length := by omega
        go_wp2_with fail
        go_ret
        exact ⟨ret_bool (by rw [hE.out]; rfl), rfl⟩
      | cons x r =>
        obtain ⟨hx, hr2⟩ := hr.out
        have hr3 := Lib.hid (show Row (StrAt wr) 1 r b (o + (k + 1) * 1) by rw [show o + (k + 1) * 1 = o + k * 1 + 1 by omega]; exact hr2)
        simp only [List.length_cons] at hk
        have hlt : k < ns.length := by omega
        have hx1 : wr.cell? ⟨b, o + k * 1, none⟩ = some (.string (str x)) := hx
        have hx2 : wr.cell? ⟨b, o + k, none⟩ = some (.string (str x)) := by rw [Nat.mul_one] at hx1; exact hx1
        have HNm := Lib.hid (fun w => name_any (str x) w)
        rw [str_data] at HNm
        have HE := Lib.hid (show namesB ns = (nameB x && namesB r) by rw [hE.out]; simp [namesB])
        clear hr hx hr2 hE
        obtain ⟨m, hm'⟩ : ∃ m, nameB x = m := ⟨_, rfl⟩
        rw [hm'] at HE HNm
        cases m
        · go_wp2_with fail
          refine (HNm.out _).mono ?_
          rintro e w2 ⟨rfl, rfl⟩
          go_wp2_with fail
          go_ret
          exact ⟨ret_bool (by rw [HE.out]; rfl), rfl⟩
        · go_wp2_with fail
          refine (HNm.out _).mono ?_
          rintro e w2 ⟨rfl, rfl⟩
          go_wp2_with fail
          go_roundw
          case rel => exact ⟨k + 1, r, by go_num, by omega, hr3, Lib.hid (by rw [HE.out]; simp), trivial⟩
          case measure => simp [intOf]; omega

theorem everyEx_any (l : Exs) (p : Option Addr) (c N : Nat) (w : World) (hN : N ≤ w.heap.size) (h : l.In w N p) :
    Calls Tryz.prog 77 #[.slice p l.len c, .func (.func 35) #[] #[]] w fun e w' => e = .returned (.bool l.may) ∧ Below w.heap.size w w' :=
  every_step _ (fun x _ p c N w hN hx => mayExpr_any x p c N w hN hx) l (Nat.le_refl _) p c N w hN h

def MayS (n : Nat) : Prop := ∀ (x : St), x.size < n → ∀ (s : StP) (N : Nat) (w : World), N ≤ w.heap.size → x.Ok w N s →
    Calls Tryz.prog 106 #[x.val s] w fun e w' => e = .returned (.bool x.may) ∧ Below w.heap.size w w'
set_option maxRecDepth 100000 in
set_option maxHeartbeats 3200000 in
theorem everyS_step (n : Nat) (ih : MayS n) (l : Sts) (hl : l.size ≤ n) (p : Option Addr) (c N : Nat) (w : World) (hN : N ≤ w.heap.size) (h : l.In w N p) :
    Calls Tryz.prog 105 #[.slice p l.len c, .func (.func 106) #[] #[]] w fun e w' => e = .returned (.bool l.may) ∧ Below w.heap.size w w' := by
  have IH := Lib.hid ih
  have S1 := Lib.hid h
  have hm1 := h.1
  have HNN := Lib.hid hN
  clear ih h hN
  go_enter Tryz.func105, Tryz.ntmps105
  go_wp2_with fail
  go_loopw [9] (fun i wr => ∃ (k : Nat) (r : Sts), i = .int .i64 k ∧ k + r.len = l.len ∧ r.size ≤ n ∧ Hid (∀ b o, p = some ⟨b, o, none⟩ → l.At w N b o → r.At w N b (o + k * 16)) ∧ Hid (l.may = r.may) ∧ Hid (Below w.heap.size w wr)) (fun i _ => l.len - (intOf i).toNat)
  case atStart => exact ⟨0, l, rfl, by omega, hl, Lib.hid fun b o _ h => by rw [Nat.zero_mul]; exact h, Lib.hid rfl, Lib.hid (Below.refl _ _)⟩
  case round =>
    obtain ⟨k, r, rfl, hk, hrs, hat, hE, hB⟩ := hrel
    cases r with
    | nil =>
      simp only [Sts.len] at hk
      have hge : ¬ k < l.len := by omega
      go_wp2_with fail
      go_ret
      exact ⟨ret_bool (by rw [hE.out]; rfl), hB.out⟩
    | cons x r =>
      simp only [Sts.len] at hk
      simp only [Sts.size] at hrs
      have hlt : k < l.len := by omega
      obtain ⟨wo, rfl⟩ : ∃ wo : World, wo = wr := ⟨_, rfl⟩
      rcases S1.out.2 with h30 | ⟨b, o, rfl, hb, ha⟩
      · omega
      obtain ⟨hx, hr⟩ := hat.out b o rfl ha
      have HR := Lib.hid hr
      obtain ⟨s, c1, ok1⟩ := St.At.openP (St.At.later (hB.out.mono HNN.out) (Nat.le_trans HNN.out hB.out.size) x b _ hb hx)
      have hbl : b < wo.heap.size := by have := hB.out.size; have := HNN.out; omega
      obtain ⟨A1, hA1⟩ : ∃ A1, x.cells s = A1 := ⟨_, rfl⟩
      have HZ1 := Lib.hid (show A1.size = 16 by rw [← hA1]; rfl)
      have HO1 := Lib.hid (show A1.all (·.oneCell') = true by rw [← hA1]; exact oneSt _ _)
      have F1 := Lib.hid (show wo.rangeAt b (o + k * 16) A1.toList from fun j z hz => c1 j z (by rw [hA1, ← Array.getElem?_toList]; exact hz))
      have HI1 := Lib.hid (infoSt.trans (by rw [HZ1.out]) : (Tryz.prog.info? 54).map (·.size) = some A1.size)
      obtain ⟨W1, hW1⟩ : ∃ W1, wo.alloc (Obj.cells A1 54) = W1 := ⟨_, rfl⟩
      have HW1 := Lib.hid (show Below wo.heap.size wo W1 by rw [← hW1]; exact (Below.refl _ wo).alloc (Nat.le_refl _) _)
      have F2 := Lib.hid (show W1.rangeAt wo.heap.size 0 A1.toList by rw [← hW1]; exact range_new wo A1 _)
      have HC := Lib.hid (IH.out x (by omega) s wo.heap.size W1 HW1.out.size (ok1.later HW1.out (Nat.le_refl _)))
      unfold St.val at HC
      rw [hA1] at HC
      have HE := Lib.hid (show l.may = (x.may && r.may) by rw [hE.out, Sts.may])
      obtain ⟨m, hm'⟩ : ∃ m, x.may = m := ⟨_, rfl⟩
      rw [hm'] at HE HC
      clear ok1 hA1 c1 hx hr ha hE hm'
      go_wp2_with (first | (refine wpl_load rfl 54 _ rfl b (o + k * 16) rfl A1 _ F1.out Tryz.underlying54 rfl HI1.out ?_) | (refine wpl_store_new rfl 54 _ _ rfl _ A1 _ rfl rfl (by rw [HZ1.out]; rfl) HI1.out HO1.out ?_; rw [hW1]) | (refine wpl_load rfl 54 _ rfl wo.heap.size 0 rfl A1 _ F2.out Tryz.underlying54 rfl HI1.out ?_))
      refine HC.out.mono ?_
      rintro e w2 ⟨rfl, hB2⟩
      have HB3 := Lib.hid (hB.out.trans ((HW1.out.trans (hB2.mono HW1.out.size)).mono hB.out.size))
      clear hB2
      cases m
      · go_wp2_with fail
        go_ret
        exact ⟨ret_bool (by rw [HE.out]; rfl), HB3.out⟩
      · go_wp2_with fail
        go_roundw
        case rel => exact ⟨k + 1, r, by go_num, by omega, by omega, Lib.hid fun b' o' e _ => by cases e; rw [show o + (k + 1) * 16 = o + k * 16 + 16 by omega]; exact HR.out, Lib.hid (by rw [HE.out]; simp), HB3⟩
        case measure => simp [intOf]; omega
end Go.Proofs.YtlhbledakddbbaaGreatDoor
/- A statement's first line: the program's firstLine. -/
namespace Go.Proofs.YtlhbledakddbbaaGreatDoor
open Go.RowKit

/-- the cells of a statement that lies there, its expressions as they lie -/
theorem St.At.parts {w : World} {N : Nat} {kd : Int} {nm : List UInt8} {ns : List (List UInt8)} {e a : Ex} {g : Exs} {lo hi : Nat} {bd el : Sts} {b o : Nat} (h : (St.mk kd nm ns e a g lo hi bd el).At w N b o) :
    w.cell? ⟨b, o, none⟩ = some (.int .i64 kd) ∧ w.cell? ⟨b, o + 1, none⟩ = some (.string (str nm)) ∧ e.At w N b (o + 3) ∧ a.At w N b (o + 7) ∧ (∃ p c, w.cell? ⟨b, o + 2, none⟩ = some (.slice p ns.length c) ∧ (ns.length ≤ c ∧ RowIn N (StrAt w) 1 ns p)) ∧
    (∃ p c, w.cell? ⟨b, o + 11, none⟩ = some (.slice p g.len c) ∧ g.In w N p) ∧ w.cell? ⟨b, o + 12, none⟩ = some (.int .u64 (lo : Int)) ∧ w.cell? ⟨b, o + 13, none⟩ = some (.int .u64 (hi : Int)) ∧ lo < 18446744073709551616 ∧ hi < 18446744073709551616 ∧
    (∃ p c, w.cell? ⟨b, o + 14, none⟩ = some (.slice p bd.len c) ∧ bd.In w N p) ∧ (∃ p c, w.cell? ⟨b, o + 15, none⟩ = some (.slice p el.len c) ∧ el.In w N p) := by
  obtain ⟨⟨h0, h1, h2, h3, h4, h5⟩, s1, he, ha, s2, s3, s4⟩ := h
  exact ⟨h0, h1, he, ha, s1, s2, h2, h3, h4, h5, s3, s4⟩
set_option maxRecDepth 100000 in
set_option maxHeartbeats 6400000 in
theorem first_1 (nm : List UInt8) (ns : List (List UInt8)) (e a : Ex) (g : Exs) (lo hi : Nat) (bd el : Sts) (he : e.may = true) (b o m : Nat) (w : World) (hb : b < w.heap.size) (hx : (St.mk 1 nm ns e a g lo hi bd el).At w w.heap.size b o) (hmp : w.heap[m]? = some (fmap signT)) (hG : Glob w) (hl : (St.mk 1 nm ns e a g lo hi bd el).first.length ≤ 1000000) :
    Calls Tryz.prog 109 #[.agg #[.map (some m)], .pointer (some ⟨b, o, none⟩)] w fun z w' => z = .returned (.string (str (St.mk 1 nm ns e a g lo hi bd el).first)) ∧ Below w.heap.size w w' := by
  have ht : (St.mk 1 nm ns e a g lo hi bd el).first = ((nm ++ [32, 61, 32]) ++ e.text) ++ [59] := by rw [← first_eq, firstT, if_pos rfl]
  have hlen : nm.length + e.text.length ≤ 1000000 := by rw [ht] at hl; simp only [List.length_append, List.length_cons, List.length_nil] at hl; omega
  obtain ⟨W1, hW1⟩ : ∃ W1, w.alloc (.cells #[.map (some m)] 68) = W1 := ⟨_, rfl⟩
  have hB1 : Below w.heap.size w W1 := by rw [← hW1]; exact (Below.refl _ _).alloc (Nat.le_refl _) _
  have hz1 : W1.heap.size = w.heap.size + 1 := by rw [← hW1]; simp
  have xt : W1.cell? ⟨w.heap.size, 0, none⟩ = some (.map (some m)) := cell_block (show W1.heap[w.heap.size]? = some (.cells #[.map (some m)] 68 (0, 0)) by rw [← hW1]; exact heap_alloc_new w _) rfl
  obtain ⟨y0, y1, ye, ya, ⟨pn, cn, y2, hcn, sn⟩, ⟨pg, cg, y11, sg⟩, y12, y13, hlo, hhi, _, _⟩ := hx.parts
  have x0 := (hB1.cell hb).trans y0
  have x1 := (hB1.cell hb).trans y1
  have x2 := (hB1.cell hb).trans y2
  have x11 := (hB1.cell hb).trans y11
  have x12 := (hB1.cell hb).trans y12
  have x13 := (hB1.cell hb).trans y13
  have hmp1 := (hB1.block m (lt_of_block hmp)).trans hmp
  have hb1 : b < W1.heap.size := by omega
  have ht1 : w.heap.size < W1.heap.size := by omega
  have hG1 := hG.later hB1
  have HB1 := Lib.hid hB1
  have HTe := Lib.hid (fun (w1 : World) (hB : Below W1.heap.size W1 w1) => exprText_any e he b (o + 3) m w1 (Nat.lt_of_lt_of_le hb1 hB.size) (Ex.At.later ((hB1.trans (hB.mono hB1.size))) (Nat.le_trans hB1.size hB.size) e b (o + 3) hb ye) ((hB.block m (lt_of_block hmp1)).trans hmp1) (hG1.later hB) (by omega))
  obtain ⟨NM, hNM⟩ : ∃ A, A = str (nm) := ⟨_, rfl⟩
  obtain ⟨A0, hA0⟩ : ∃ A, A = str (e.text) := ⟨_, rfl⟩
  rw [← hNM] at x1
  rw [← hA0] at HTe
  obtain ⟨B4, hB4⟩ : ∃ B, B = str (nm ++ [32, 61, 32]) := ⟨_, rfl⟩
  obtain ⟨B10, hB10⟩ : ∃ B, B = str ((nm ++ [32, 61, 32]) ++ e.text) := ⟨_, rfl⟩
  obtain ⟨B11, hB11⟩ : ∃ B, B = str (((nm ++ [32, 61, 32]) ++ e.text) ++ [59]) := ⟨_, rfl⟩
  have qB4 : ∀ w : World, (Op.stringOp .add NM ⟨#[32, 61, 32]⟩).run Tryz.prog w = .ok (.string B4) w := fun w => by
    (try rw [hB4]); (try rw [hNM]); exact add_str (nm) ([32, 61, 32]) (by simp only [List.length_cons, List.length_nil] at hlen ⊢; omega) w
  have qB10 : ∀ w : World, (Op.stringOp .add B4 A0).run Tryz.prog w = .ok (.string B10) w := fun w => by
    (try rw [hB10]); (try rw [hB4]); (try rw [hA0]); exact add_str ((nm ++ [32, 61, 32])) (e.text) (by simp only [List.length_append, List.length_cons, List.length_nil] at hlen ⊢; omega) w
  have qB11 : ∀ w : World, (Op.stringOp .add B10 ⟨#[59]⟩).run Tryz.prog w = .ok (.string B11) w := fun w => by
    (try rw [hB11]); (try rw [hB10]); exact add_str (((nm ++ [32, 61, 32]) ++ e.text)) ([59]) (by simp only [List.length_append, List.length_cons, List.length_nil] at hlen ⊢; omega) w
  have HF := Lib.hid (show str (St.mk 1 nm ns e a g lo hi bd el).first = B11 by rw [ht, hB11])
  clear hNM hA0 hB4 hB10 hB11 hl ht hx y0 y1 y2 y11 y12 y13 ye ya sn sg hG hG1 hmp hmp1 hB1 hlo hhi x2 x11 x12 x13
  go_enter Tryz.func109, Tryz.ntmps109
  go_wp2_with fail
  clear hW1 x0
  have HS : Below W1.heap.size W1 W1.drew := (Below.refl _ _).drew
  refine wp_region_held_drew (S := fun W => Below W1.heap.size W1 W ∧ W.cell? ⟨w.heap.size, 0, none⟩ = some (.map (some m)) ∧ W.cell? ⟨b, o + 1, none⟩ = some (.string NM)) (by kernel_rfl) ?_ (fun hHeld => ?_)
  · exact ⟨HS, (HS.cell ht1).trans xt, (HS.cell hb1).trans x1⟩
  refine wpAnyH_take (i := 0) (oi := ⟨some 12, .move (.tmp 1), 145, "lines.go:84", #[], none⟩) (v := ?_) rfl (by kernel_rfl) (by kernel_rfl) (by kernel_rfl) (fun _ _ _ h => h) (Or.inl ⟨by rfl, ?_⟩) (by assumption) ?_
  rotate_left
  · (intro w hSw; (try dsimp only at hSw); go_simp; try with_reducible rfl)
  try simp only [Act.put, List.setIfInBounds_toArray, List.set_cons_zero, List.set_cons_succ]
  refine wpAnyH_take (i := 1) (oi := ⟨some 13, .nilCheck (.tmp 12), 0, "lines.go:84", #[⟨0, .data⟩], none⟩) (v := ?_) rfl (by kernel_rfl) (by kernel_rfl) (by kernel_rfl) (fun _ _ _ h => h) (Or.inl ⟨by rfl, ?_⟩) (by assumption) ?_
  rotate_left
  · (intro w hSw; (try dsimp only at hSw); go_simp; try with_reducible rfl)
  try simp only [Act.put, List.setIfInBounds_toArray, List.set_cons_zero, List.set_cons_succ]
  refine wpAnyH_take (i := 2) (oi := ⟨some 14, .fieldAddr 54 (.tmp 13) 1, 0, "lines.go:84", #[⟨1, .data⟩], none⟩) (v := ?_) rfl (by kernel_rfl) (by kernel_rfl) (by kernel_rfl) (fun _ _ _ h => h) (Or.inl ⟨by rfl, ?_⟩) (by assumption) ?_
  rotate_left
  · (intro w hSw; (try dsimp only at hSw); go_simp; try with_reducible rfl)
  try simp only [Act.put, List.setIfInBounds_toArray, List.set_cons_zero, List.set_cons_succ]
  refine wpAnyH_take (i := 3) (oi := ⟨some 15, .load 9 (.tmp 14), 9, "lines.go:84", #[⟨2, .data⟩], none⟩) (v := ?_) rfl (by kernel_rfl) (by kernel_rfl) (by kernel_rfl) (fun _ _ _ h => h) (Or.inl ⟨by rfl, ?_⟩) (by assumption) ?_
  rotate_left
  · (intro w hSw; (try dsimp only at hSw); go_simp; try with_reducible rfl)
  try simp only [Act.put, List.setIfInBounds_toArray, List.set_cons_zero, List.set_cons_succ]
  refine wpAnyH_take (i := 4) (oi := ⟨some 16, .binOp .add 9 (.tmp 15) (.const (.string ⟨#[32, 61, 32]⟩)) 9, 9, "lines.go:84", #[⟨3, .data⟩], none⟩) (v := .string B4) rfl (by kernel_rfl) (by kernel_rfl) (by kernel_rfl) (fun _ _ _ h => h) (Or.inl ⟨by rfl, ?_⟩) (by assumption) ?_
  · (intro w hSw; (try dsimp only at hSw); go_simp)
  try simp only [Act.put, List.setIfInBounds_toArray, List.set_cons_zero, List.set_cons_succ]
  refine wpAnyH_take (i := 5) (oi := ⟨some 17, .load 68 (.tmp 2), 68, "lines.go:84", #[], none⟩) (v := ?_) rfl (by kernel_rfl) (by kernel_rfl) (by kernel_rfl) (fun _ _ _ h => h) (Or.inl ⟨by rfl, ?_⟩) (by assumption) ?_
  rotate_left
  · (intro w hSw; (try dsimp only at hSw); go_simp; try with_reducible rfl)
  try simp only [Act.put, List.setIfInBounds_toArray, List.set_cons_zero, List.set_cons_succ]
  refine wpAnyH_take (i := 6) (oi := ⟨some 18, .move (.tmp 1), 145, "lines.go:84", #[], none⟩) (v := ?_) rfl (by kernel_rfl) (by kernel_rfl) (by kernel_rfl) (fun _ _ _ h => h) (Or.inl ⟨by rfl, ?_⟩) (by assumption) ?_
  rotate_left
  · (intro w hSw; (try dsimp only at hSw); go_simp; try with_reducible rfl)
  try simp only [Act.put, List.setIfInBounds_toArray, List.set_cons_zero, List.set_cons_succ]
  refine wpAnyH_take (i := 7) (oi := ⟨some 19, .nilCheck (.tmp 18), 0, "lines.go:84", #[⟨6, .data⟩], none⟩) (v := ?_) rfl (by kernel_rfl) (by kernel_rfl) (by kernel_rfl) (fun _ _ _ h => h) (Or.inl ⟨by rfl, ?_⟩) (by assumption) ?_
  rotate_left
  · (intro w hSw; (try dsimp only at hSw); go_simp; try with_reducible rfl)
  try simp only [Act.put, List.setIfInBounds_toArray, List.set_cons_zero, List.set_cons_succ]
  refine wpAnyH_take (i := 8) (oi := ⟨some 20, .fieldAddr 54 (.tmp 19) 3, 0, "lines.go:84", #[⟨7, .data⟩], none⟩) (v := ?_) rfl (by kernel_rfl) (by kernel_rfl) (by kernel_rfl) (fun _ _ _ h => h) (Or.inl ⟨by rfl, ?_⟩) (by assumption) ?_
  rotate_left
  · (intro w hSw; (try dsimp only at hSw); go_simp; try with_reducible rfl)
  try simp only [Act.put, List.setIfInBounds_toArray, List.set_cons_zero, List.set_cons_succ]
  refine wpAnyH_ready (rs := [9]) (by kernel_rfl) (by simp) ?_
  refine AllReadyH.cons (o := ⟨some 21, .call { callee := .value (.func 37), args := #[.tmp 17, .tmp 20], argTypes := #[68, 71] }, 9, "lines.go:84", #[⟨5, .data⟩, ⟨8, .data⟩], none⟩) rfl (fun K hK => ?_) AllReadyH.nil
  go_simp
  refine (HTe.out _ HS).mono ?_
  rintro z wa ⟨rfl, hB'⟩
  replace HS := HS.trans (hB'.mono HS.size)
  clear hB'
  refine hK.out _ _ ?_ (fun hHeld => ?_)
  · exact ⟨HS, (HS.cell ht1).trans xt, (HS.cell hb1).trans x1⟩
  clear hK K
  try simp only [Act.put, List.setIfInBounds_toArray, List.set_cons_zero, List.set_cons_succ]
  refine wpAnyH_take (i := 10) (oi := ⟨some 22, .binOp .add 9 (.tmp 16) (.tmp 21) 9, 9, "lines.go:84", #[⟨4, .data⟩, ⟨9, .data⟩], none⟩) (v := .string B10) rfl (by kernel_rfl) (by kernel_rfl) (by kernel_rfl) (fun _ _ _ h => h) (Or.inl ⟨by rfl, ?_⟩) (by assumption) ?_
  · (intro w hSw; (try dsimp only at hSw); go_simp)
  try simp only [Act.put, List.setIfInBounds_toArray, List.set_cons_zero, List.set_cons_succ]
  refine wpAnyH_take (i := 11) (oi := ⟨some 23, .binOp .add 9 (.tmp 22) (.const (.string ⟨#[59]⟩)) 9, 9, "lines.go:84", #[⟨10, .data⟩], none⟩) (v := .string B11) rfl (by kernel_rfl) (by kernel_rfl) (by kernel_rfl) (fun _ _ _ h => h) (Or.inl ⟨by rfl, ?_⟩) (by assumption) ?_
  · (intro w hSw; (try dsimp only at hSw); go_simp)
  try simp only [Act.put, List.setIfInBounds_toArray, List.set_cons_zero, List.set_cons_succ]
  refine wpAnyH_take (i := 12) (oi := ⟨some 4, .assign (.tmp 23), 9, "lines.go:84", #[⟨11, .data⟩, ⟨9, .chain⟩, ⟨0, .phase⟩, ⟨1, .phase⟩, ⟨2, .phase⟩, ⟨3, .phase⟩, ⟨4, .phase⟩, ⟨5, .phase⟩, ⟨6, .phase⟩, ⟨7, .phase⟩, ⟨8, .phase⟩, ⟨9, .phase⟩, ⟨10, .phase⟩, ⟨11, .phase⟩], none⟩) (v := ?_) rfl (by kernel_rfl) (by kernel_rfl) (by kernel_rfl) (fun _ _ _ h => h) (Or.inl ⟨by rfl, ?_⟩) (by assumption) ?_
  rotate_left
  · (intro w hSw; (try dsimp only at hSw); go_simp; try with_reducible rfl)
  try simp only [Act.put, List.setIfInBounds_toArray, List.set_cons_zero, List.set_cons_succ]
  refine wpAnyH_done (by kernel_rfl) ?_ _
  have HE := Lib.hid (HB1.out.trans (HS.mono HB1.out.size))
  go_wp2_with fail
  go_ret
  exact ⟨ret_strE HF.out.symm, HE.out⟩
set_option maxRecDepth 100000 in
set_option maxHeartbeats 6400000 in
theorem first_3 (nm : List UInt8) (ns : List (List UInt8)) (e a : Ex) (g : Exs) (lo hi : Nat) (bd el : Sts) (he : e.may = true) (b o m : Nat) (w : World) (hb : b < w.heap.size) (hx : (St.mk 3 nm ns e a g lo hi bd el).At w w.heap.size b o) (hmp : w.heap[m]? = some (fmap signT)) (hG : Glob w) (hl : (St.mk 3 nm ns e a g lo hi bd el).first.length ≤ 1000000) :
    Calls Tryz.prog 109 #[.agg #[.map (some m)], .pointer (some ⟨b, o, none⟩)] w fun z w' => z = .returned (.string (str (St.mk 3 nm ns e a g lo hi bd el).first)) ∧ Below w.heap.size w w' := by
  have ht : (St.mk 3 nm ns e a g lo hi bd el).first = ([105, 102, 32] ++ e.text) ++ [32, 123] := by rw [← first_eq, firstT, if_neg (by decide), if_neg (by decide), if_pos rfl]
  have hlen : e.text.length ≤ 1000000 := by rw [ht] at hl; simp only [List.length_append, List.length_cons, List.length_nil] at hl; omega
  obtain ⟨W1, hW1⟩ : ∃ W1, w.alloc (.cells #[.map (some m)] 68) = W1 := ⟨_, rfl⟩
  have hB1 : Below w.heap.size w W1 := by rw [← hW1]; exact (Below.refl _ _).alloc (Nat.le_refl _) _
  have hz1 : W1.heap.size = w.heap.size + 1 := by rw [← hW1]; simp
  have xt : W1.cell? ⟨w.heap.size, 0, none⟩ = some (.map (some m)) := cell_block (show W1.heap[w.heap.size]? = some (.cells #[.map (some m)] 68 (0, 0)) by rw [← hW1]; exact heap_alloc_new w _) rfl
  obtain ⟨y0, y1, ye, ya, ⟨pn, cn, y2, hcn, sn⟩, ⟨pg, cg, y11, sg⟩, y12, y13, hlo, hhi, _, _⟩ := hx.parts
  have x0 := (hB1.cell hb).trans y0
  have x1 := (hB1.cell hb).trans y1
  have x2 := (hB1.cell hb).trans y2
  have x11 := (hB1.cell hb).trans y11
  have x12 := (hB1.cell hb).trans y12
  have x13 := (hB1.cell hb).trans y13
  have hmp1 := (hB1.block m (lt_of_block hmp)).trans hmp
  have hb1 : b < W1.heap.size := by omega
  have ht1 : w.heap.size < W1.heap.size := by omega
  have hG1 := hG.later hB1
  have HB1 := Lib.hid hB1
  have HTe := Lib.hid (fun (w1 : World) (hB : Below W1.heap.size W1 w1) => exprText_any e he b (o + 3) m w1 (Nat.lt_of_lt_of_le hb1 hB.size) (Ex.At.later ((hB1.trans (hB.mono hB1.size))) (Nat.le_trans hB1.size hB.size) e b (o + 3) hb ye) ((hB.block m (lt_of_block hmp1)).trans hmp1) (hG1.later hB) (by omega))
  obtain ⟨A0, hA0⟩ : ∃ A, A = str (e.text) := ⟨_, rfl⟩
  rw [← hA0] at HTe
  obtain ⟨B5, hB5⟩ : ∃ B, B = str ([105, 102, 32] ++ e.text) := ⟨_, rfl⟩
  obtain ⟨B6, hB6⟩ : ∃ B, B = str (([105, 102, 32] ++ e.text) ++ [32, 123]) := ⟨_, rfl⟩
  have qB5 : ∀ w : World, (Op.stringOp .add ⟨#[105, 102, 32]⟩ A0).run Tryz.prog w = .ok (.string B5) w := fun w => by
    (try rw [hB5]); (try rw [hA0]); exact add_str ([105, 102, 32]) (e.text) (by simp only [List.length_cons, List.length_nil] at hlen ⊢; omega) w
  have qB6 : ∀ w : World, (Op.stringOp .add B5 ⟨#[32, 123]⟩).run Tryz.prog w = .ok (.string B6) w := fun w => by
    (try rw [hB6]); (try rw [hB5]); exact add_str (([105, 102, 32] ++ e.text)) ([32, 123]) (by simp only [List.length_append, List.length_cons, List.length_nil] at hlen ⊢; omega) w
  have HF := Lib.hid (show str (St.mk 3 nm ns e a g lo hi bd el).first = B6 by rw [ht, hB6])
  clear hA0 hB5 hB6 hl ht hx y0 y1 y2 y11 y12 y13 ye ya sn sg hG hG1 hmp hmp1 hB1 hlo hhi x1 x2 x11 x12 x13
  go_enter Tryz.func109, Tryz.ntmps109
  go_wp2_with fail
  clear hW1 x0
  have HS : Below W1.heap.size W1 W1.drew := (Below.refl _ _).drew
  refine wp_region_held_drew (S := fun W => Below W1.heap.size W1 W ∧ W.cell? ⟨w.heap.size, 0, none⟩ = some (.map (some m))) (by kernel_rfl) ?_ (fun hHeld => ?_)
  · exact ⟨HS, (HS.cell ht1).trans xt⟩
  refine wpAnyH_take (i := 0) (oi := ⟨some 46, .load 68 (.tmp 2), 68, "lines.go:88", #[], none⟩) (v := ?_) rfl (by kernel_rfl) (by kernel_rfl) (by kernel_rfl) (fun _ _ _ h => h) (Or.inl ⟨by rfl, ?_⟩) (by assumption) ?_
  rotate_left
  · (intro w hSw; (try dsimp only at hSw); go_simp; try with_reducible rfl)
  try simp only [Act.put, List.setIfInBounds_toArray, List.set_cons_zero, List.set_cons_succ]
  refine wpAnyH_take (i := 1) (oi := ⟨some 47, .move (.tmp 1), 145, "lines.go:88", #[], none⟩) (v := ?_) rfl (by kernel_rfl) (by kernel_rfl) (by kernel_rfl) (fun _ _ _ h => h) (Or.inl ⟨by rfl, ?_⟩) (by assumption) ?_
  rotate_left
  · (intro w hSw; (try dsimp only at hSw); go_simp; try with_reducible rfl)
  try simp only [Act.put, List.setIfInBounds_toArray, List.set_cons_zero, List.set_cons_succ]
  refine wpAnyH_take (i := 2) (oi := ⟨some 48, .nilCheck (.tmp 47), 0, "lines.go:88", #[⟨1, .data⟩], none⟩) (v := ?_) rfl (by kernel_rfl) (by kernel_rfl) (by kernel_rfl) (fun _ _ _ h => h) (Or.inl ⟨by rfl, ?_⟩) (by assumption) ?_
  rotate_left
  · (intro w hSw; (try dsimp only at hSw); go_simp; try with_reducible rfl)
  try simp only [Act.put, List.setIfInBounds_toArray, List.set_cons_zero, List.set_cons_succ]
  refine wpAnyH_take (i := 3) (oi := ⟨some 49, .fieldAddr 54 (.tmp 48) 3, 0, "lines.go:88", #[⟨2, .data⟩], none⟩) (v := ?_) rfl (by kernel_rfl) (by kernel_rfl) (by kernel_rfl) (fun _ _ _ h => h) (Or.inl ⟨by rfl, ?_⟩) (by assumption) ?_
  rotate_left
  · (intro w hSw; (try dsimp only at hSw); go_simp; try with_reducible rfl)
  try simp only [Act.put, List.setIfInBounds_toArray, List.set_cons_zero, List.set_cons_succ]
  refine wpAnyH_ready (rs := [4]) (by kernel_rfl) (by simp) ?_
  refine AllReadyH.cons (o := ⟨some 50, .call { callee := .value (.func 37), args := #[.tmp 46, .tmp 49], argTypes := #[68, 71] }, 9, "lines.go:88", #[⟨0, .data⟩, ⟨3, .data⟩], none⟩) rfl (fun K hK => ?_) AllReadyH.nil
  go_simp
  refine (HTe.out _ HS).mono ?_
  rintro z wa ⟨rfl, hB'⟩
  replace HS := HS.trans (hB'.mono HS.size)
  clear hB'
  refine hK.out _ _ ?_ (fun hHeld => ?_)
  · exact ⟨HS, (HS.cell ht1).trans xt⟩
  clear hK K
  try simp only [Act.put, List.setIfInBounds_toArray, List.set_cons_zero, List.set_cons_succ]
  refine wpAnyH_take (i := 5) (oi := ⟨some 51, .binOp .add 9 (.const (.string ⟨#[105, 102, 32]⟩)) (.tmp 50) 9, 9, "lines.go:88", #[⟨4, .data⟩], none⟩) (v := .string B5) rfl (by kernel_rfl) (by kernel_rfl) (by kernel_rfl) (fun _ _ _ h => h) (Or.inl ⟨by rfl, ?_⟩) (by assumption) ?_
  · (intro w hSw; (try dsimp only at hSw); go_simp)
  try simp only [Act.put, List.setIfInBounds_toArray, List.set_cons_zero, List.set_cons_succ]
  refine wpAnyH_take (i := 6) (oi := ⟨some 52, .binOp .add 9 (.tmp 51) (.const (.string ⟨#[32, 123]⟩)) 9, 9, "lines.go:88", #[⟨5, .data⟩], none⟩) (v := .string B6) rfl (by kernel_rfl) (by kernel_rfl) (by kernel_rfl) (fun _ _ _ h => h) (Or.inl ⟨by rfl, ?_⟩) (by assumption) ?_
  · (intro w hSw; (try dsimp only at hSw); go_simp)
  try simp only [Act.put, List.setIfInBounds_toArray, List.set_cons_zero, List.set_cons_succ]
  refine wpAnyH_take (i := 7) (oi := ⟨some 4, .assign (.tmp 52), 9, "lines.go:88", #[⟨6, .data⟩, ⟨4, .chain⟩, ⟨0, .phase⟩, ⟨1, .phase⟩, ⟨2, .phase⟩, ⟨3, .phase⟩, ⟨4, .phase⟩, ⟨5, .phase⟩, ⟨6, .phase⟩], none⟩) (v := ?_) rfl (by kernel_rfl) (by kernel_rfl) (by kernel_rfl) (fun _ _ _ h => h) (Or.inl ⟨by rfl, ?_⟩) (by assumption) ?_
  rotate_left
  · (intro w hSw; (try dsimp only at hSw); go_simp; try with_reducible rfl)
  try simp only [Act.put, List.setIfInBounds_toArray, List.set_cons_zero, List.set_cons_succ]
  refine wpAnyH_done (by kernel_rfl) ?_ _
  have HE := Lib.hid (HB1.out.trans (HS.mono HB1.out.size))
  go_wp2_with fail
  go_ret
  exact ⟨ret_strE HF.out.symm, HE.out⟩
set_option maxRecDepth 100000 in
set_option maxHeartbeats 6400000 in
theorem first_4 (nm : List UInt8) (ns : List (List UInt8)) (e a : Ex) (g : Exs) (lo hi : Nat) (bd el : Sts) (he : e.may = true) (b o m : Nat) (w : World) (hb : b < w.heap.size) (hx : (St.mk 4 nm ns e a g lo hi bd el).At w w.heap.size b o) (hmp : w.heap[m]? = some (fmap signT)) (hG : Glob w) (hl : (St.mk 4 nm ns e a g lo hi bd el).first.length ≤ 1000000) :
    Calls Tryz.prog 109 #[.agg #[.map (some m)], .pointer (some ⟨b, o, none⟩)] w fun z w' => z = .returned (.string (str (St.mk 4 nm ns e a g lo hi bd el).first)) ∧ Below w.heap.size w w' := by
  have ht : (St.mk 4 nm ns e a g lo hi bd el).first = ([119, 104, 105, 108, 101, 32] ++ e.text) ++ [32, 123] := by rw [← first_eq, firstT, if_neg (by decide), if_neg (by decide), if_neg (by decide), if_pos rfl]
  have hlen : e.text.length ≤ 1000000 := by rw [ht] at hl; simp only [List.length_append, List.length_cons, List.length_nil] at hl; omega
  obtain ⟨W1, hW1⟩ : ∃ W1, w.alloc (.cells #[.map (some m)] 68) = W1 := ⟨_, rfl⟩
  have hB1 : Below w.heap.size w W1 := by rw [← hW1]; exact (Below.refl _ _).alloc (Nat.le_refl _) _
  have hz1 : W1.heap.size = w.heap.size + 1 := by rw [← hW1]; simp
  have xt : W1.cell? ⟨w.heap.size, 0, none⟩ = some (.map (some m)) := cell_block (show W1.heap[w.heap.size]? = some (.cells #[.map (some m)] 68 (0, 0)) by rw [← hW1]; exact heap_alloc_new w _) rfl
  obtain ⟨y0, y1, ye, ya, ⟨pn, cn, y2, hcn, sn⟩, ⟨pg, cg, y11, sg⟩, y12, y13, hlo, hhi, _, _⟩ := hx.parts
  have x0 := (hB1.cell hb).trans y0
  have x1 := (hB1.cell hb).trans y1
  have x2 := (hB1.cell hb).trans y2
  have x11 := (hB1.cell hb).trans y11
  have x12 := (hB1.cell hb).trans y12
  have x13 := (hB1.cell hb).trans y13
  have hmp1 := (hB1.block m (lt_of_block hmp)).trans hmp
  have hb1 : b < W1.heap.size := by omega
  have ht1 : w.heap.size < W1.heap.size := by omega
  have hG1 := hG.later hB1
  have HB1 := Lib.hid hB1
  have HTe := Lib.hid (fun (w1 : World) (hB : Below W1.heap.size W1 w1) => exprText_any e he b (o + 3) m w1 (Nat.lt_of_lt_of_le hb1 hB.size) (Ex.At.later ((hB1.trans (hB.mono hB1.size))) (Nat.le_trans hB1.size hB.size) e b (o + 3) hb ye) ((hB.block m (lt_of_block hmp1)).trans hmp1) (hG1.later hB) (by omega))
  obtain ⟨A0, hA0⟩ : ∃ A, A = str (e.text) := ⟨_, rfl⟩
  rw [← hA0] at HTe
  obtain ⟨B5, hB5⟩ : ∃ B, B = str ([119, 104, 105, 108, 101, 32] ++ e.text) := ⟨_, rfl⟩
  obtain ⟨B6, hB6⟩ : ∃ B, B = str (([119, 104, 105, 108, 101, 32] ++ e.text) ++ [32, 123]) := ⟨_, rfl⟩
  have qB5 : ∀ w : World, (Op.stringOp .add ⟨#[119, 104, 105, 108, 101, 32]⟩ A0).run Tryz.prog w = .ok (.string B5) w := fun w => by
    (try rw [hB5]); (try rw [hA0]); exact add_str ([119, 104, 105, 108, 101, 32]) (e.text) (by simp only [List.length_cons, List.length_nil] at hlen ⊢; omega) w
  have qB6 : ∀ w : World, (Op.stringOp .add B5 ⟨#[32, 123]⟩).run Tryz.prog w = .ok (.string B6) w := fun w => by
    (try rw [hB6]); (try rw [hB5]); exact add_str (([119, 104, 105, 108, 101, 32] ++ e.text)) ([32, 123]) (by simp only [List.length_append, List.length_cons, List.length_nil] at hlen ⊢; omega) w
  have HF := Lib.hid (show str (St.mk 4 nm ns e a g lo hi bd el).first = B6 by rw [ht, hB6])
  clear hA0 hB5 hB6 hl ht hx y0 y1 y2 y11 y12 y13 ye ya sn sg hG hG1 hmp hmp1 hB1 hlo hhi x1 x2 x11 x12 x13
  go_enter Tryz.func109, Tryz.ntmps109
  go_wp2_with fail
  clear hW1 x0
  have HS : Below W1.heap.size W1 W1.drew := (Below.refl _ _).drew
  refine wp_region_held_drew (S := fun W => Below W1.heap.size W1 W ∧ W.cell? ⟨w.heap.size, 0, none⟩ = some (.map (some m))) (by kernel_rfl) ?_ (fun hHeld => ?_)
  · exact ⟨HS, (HS.cell ht1).trans xt⟩
  refine wpAnyH_take (i := 0) (oi := ⟨some 55, .load 68 (.tmp 2), 68, "lines.go:90", #[], none⟩) (v := ?_) rfl (by kernel_rfl) (by kernel_rfl) (by kernel_rfl) (fun _ _ _ h => h) (Or.inl ⟨by rfl, ?_⟩) (by assumption) ?_
  rotate_left
  · (intro w hSw; (try dsimp only at hSw); go_simp; try with_reducible rfl)
  try simp only [Act.put, List.setIfInBounds_toArray, List.set_cons_zero, List.set_cons_succ]
  refine wpAnyH_take (i := 1) (oi := ⟨some 56, .move (.tmp 1), 145, "lines.go:90", #[], none⟩) (v := ?_) rfl (by kernel_rfl) (by kernel_rfl) (by kernel_rfl) (fun _ _ _ h => h) (Or.inl ⟨by rfl, ?_⟩) (by assumption) ?_
  rotate_left
  · (intro w hSw; (try dsimp only at hSw); go_simp; try with_reducible rfl)
  try simp only [Act.put, List.setIfInBounds_toArray, List.set_cons_zero, List.set_cons_succ]
  refine wpAnyH_take (i := 2) (oi := ⟨some 57, .nilCheck (.tmp 56), 0, "lines.go:90", #[⟨1, .data⟩], none⟩) (v := ?_) rfl (by kernel_rfl) (by kernel_rfl) (by kernel_rfl) (fun _ _ _ h => h) (Or.inl ⟨by rfl, ?_⟩) (by assumption) ?_
  rotate_left
  · (intro w hSw; (try dsimp only at hSw); go_simp; try with_reducible rfl)
  try simp only [Act.put, List.setIfInBounds_toArray, List.set_cons_zero, List.set_cons_succ]
  refine wpAnyH_take (i := 3) (oi := ⟨some 58, .fieldAddr 54 (.tmp 57) 3, 0, "lines.go:90", #[⟨2, .data⟩], none⟩) (v := ?_) rfl (by kernel_rfl) (by kernel_rfl) (by kernel_rfl) (fun _ _ _ h => h) (Or.inl ⟨by rfl, ?_⟩) (by assumption) ?_
  rotate_left
  · (intro w hSw; (try dsimp only at hSw); go_simp; try with_reducible rfl)
  try simp only [Act.put, List.setIfInBounds_toArray, List.set_cons_zero, List.set_cons_succ]
  refine wpAnyH_ready (rs := [4]) (by kernel_rfl) (by simp) ?_
  refine AllReadyH.cons (o := ⟨some 59, .call { callee := .value (.func 37), args := #[.tmp 55, .tmp 58], argTypes := #[68, 71] }, 9, "lines.go:90", #[⟨0, .data⟩, ⟨3, .data⟩], none⟩) rfl (fun K hK => ?_) AllReadyH.nil
  go_simp
  refine (HTe.out _ HS).mono ?_
  rintro z wa ⟨rfl, hB'⟩
  replace HS := HS.trans (hB'.mono HS.size)
  clear hB'
  refine hK.out _ _ ?_ (fun hHeld => ?_)
  · exact ⟨HS, (HS.cell ht1).trans xt⟩
  clear hK K
  try simp only [Act.put, List.setIfInBounds_toArray, List.set_cons_zero, List.set_cons_succ]
  refine wpAnyH_take (i := 5) (oi := ⟨some 60, .binOp .add 9 (.const (.string ⟨#[119, 104, 105, 108, 101, 32]⟩)) (.tmp 59) 9, 9, "lines.go:90", #[⟨4, .data⟩], none⟩) (v := .string B5) rfl (by kernel_rfl) (by kernel_rfl) (by kernel_rfl) (fun _ _ _ h => h) (Or.inl ⟨by rfl, ?_⟩) (by assumption) ?_
  · (intro w hSw; (try dsimp only at hSw); go_simp)
  try simp only [Act.put, List.setIfInBounds_toArray, List.set_cons_zero, List.set_cons_succ]
  refine wpAnyH_take (i := 6) (oi := ⟨some 61, .binOp .add 9 (.tmp 60) (.const (.string ⟨#[32, 123]⟩)) 9, 9, "lines.go:90", #[⟨5, .data⟩], none⟩) (v := .string B6) rfl (by kernel_rfl) (by kernel_rfl) (by kernel_rfl) (fun _ _ _ h => h) (Or.inl ⟨by rfl, ?_⟩) (by assumption) ?_
  · (intro w hSw; (try dsimp only at hSw); go_simp)
  try simp only [Act.put, List.setIfInBounds_toArray, List.set_cons_zero, List.set_cons_succ]
  refine wpAnyH_take (i := 7) (oi := ⟨some 4, .assign (.tmp 61), 9, "lines.go:90", #[⟨6, .data⟩, ⟨4, .chain⟩, ⟨0, .phase⟩, ⟨1, .phase⟩, ⟨2, .phase⟩, ⟨3, .phase⟩, ⟨4, .phase⟩, ⟨5, .phase⟩, ⟨6, .phase⟩], none⟩) (v := ?_) rfl (by kernel_rfl) (by kernel_rfl) (by kernel_rfl) (fun _ _ _ h => h) (Or.inl ⟨by rfl, ?_⟩) (by assumption) ?_
  rotate_left
  · (intro w hSw; (try dsimp only at hSw); go_simp; try with_reducible rfl)
  try simp only [Act.put, List.setIfInBounds_toArray, List.set_cons_zero, List.set_cons_succ]
  refine wpAnyH_done (by kernel_rfl) ?_ _
  have HE := Lib.hid (HB1.out.trans (HS.mono HB1.out.size))
  go_wp2_with fail
  go_ret
  exact ⟨ret_strE HF.out.symm, HE.out⟩
set_option maxRecDepth 100000 in
set_option maxHeartbeats 6400000 in
theorem first_5 (nm : List UInt8) (ns : List (List UInt8)) (e a : Ex) (g : Exs) (lo hi : Nat) (bd el : Sts)  (b o m : Nat) (w : World) (hb : b < w.heap.size) (hx : (St.mk 5 nm ns e a g lo hi bd el).At w w.heap.size b o) (hmp : w.heap[m]? = some (fmap signT)) (hG : Glob w) (hl : (St.mk 5 nm ns e a g lo hi bd el).first.length ≤ 1000000) :
    Calls Tryz.prog 109 #[.agg #[.map (some m)], .pointer (some ⟨b, o, none⟩)] w fun z w' => z = .returned (.string (str (St.mk 5 nm ns e a g lo hi bd el).first)) ∧ Below w.heap.size w w' := by
  have ht : (St.mk 5 nm ns e a g lo hi bd el).first = ((((([102, 111, 114, 32] ++ nm) ++ [32]) ++ Lib.decDigits lo) ++ [32]) ++ Lib.decDigits hi) ++ [32, 123] := by rw [← first_eq, firstT, if_neg (by decide), if_neg (by decide), if_neg (by decide), if_neg (by decide), if_pos rfl]
  have hlen : nm.length + (Lib.decDigits lo).length + (Lib.decDigits hi).length ≤ 1000000 := by rw [ht] at hl; simp only [List.length_append, List.length_cons, List.length_nil] at hl; omega
  obtain ⟨W1, hW1⟩ : ∃ W1, w.alloc (.cells #[.map (some m)] 68) = W1 := ⟨_, rfl⟩
  have hB1 : Below w.heap.size w W1 := by rw [← hW1]; exact (Below.refl _ _).alloc (Nat.le_refl _) _
  have hz1 : W1.heap.size = w.heap.size + 1 := by rw [← hW1]; simp
  have xt : W1.cell? ⟨w.heap.size, 0, none⟩ = some (.map (some m)) := cell_block (show W1.heap[w.heap.size]? = some (.cells #[.map (some m)] 68 (0, 0)) by rw [← hW1]; exact heap_alloc_new w _) rfl
  obtain ⟨y0, y1, ye, ya, ⟨pn, cn, y2, hcn, sn⟩, ⟨pg, cg, y11, sg⟩, y12, y13, hlo, hhi, _, _⟩ := hx.parts
  have x0 := (hB1.cell hb).trans y0
  have x1 := (hB1.cell hb).trans y1
  have x2 := (hB1.cell hb).trans y2
  have x11 := (hB1.cell hb).trans y11
  have x12 := (hB1.cell hb).trans y12
  have x13 := (hB1.cell hb).trans y13
  have hmp1 := (hB1.block m (lt_of_block hmp)).trans hmp
  have hb1 : b < W1.heap.size := by omega
  have ht1 : w.heap.size < W1.heap.size := by omega
  have hG1 := hG.later hB1
  have HB1 := Lib.hid hB1
  have HLo := Lib.hid (fun (w1 : World) (hB : Below W1.heap.size W1 w1) => formatUint_any lo hlo w1 (hG1.later hB))
  have HHi := Lib.hid (fun (w1 : World) (hB : Below W1.heap.size W1 w1) => formatUint_any hi hhi w1 (hG1.later hB))
  obtain ⟨NM, hNM⟩ : ∃ A, A = str (nm) := ⟨_, rfl⟩
  obtain ⟨A0, hA0⟩ : ∃ A, A = str (Lib.decDigits lo) := ⟨_, rfl⟩
  obtain ⟨A1, hA1⟩ : ∃ A, A = str (Lib.decDigits hi) := ⟨_, rfl⟩
  rw [← hNM] at x1
  rw [← hA0] at HLo
  rw [← hA1] at HHi
  obtain ⟨B4, hB4⟩ : ∃ B, B = str ([102, 111, 114, 32] ++ nm) := ⟨_, rfl⟩
  obtain ⟨B5, hB5⟩ : ∃ B, B = str (([102, 111, 114, 32] ++ nm) ++ [32]) := ⟨_, rfl⟩
  obtain ⟨B11, hB11⟩ : ∃ B, B = str ((([102, 111, 114, 32] ++ nm) ++ [32]) ++ Lib.decDigits lo) := ⟨_, rfl⟩
  obtain ⟨B12, hB12⟩ : ∃ B, B = str (((([102, 111, 114, 32] ++ nm) ++ [32]) ++ Lib.decDigits lo) ++ [32]) := ⟨_, rfl⟩
  obtain ⟨B18, hB18⟩ : ∃ B, B = str ((((([102, 111, 114, 32] ++ nm) ++ [32]) ++ Lib.decDigits lo) ++ [32]) ++ Lib.decDigits hi) := ⟨_, rfl⟩
  obtain ⟨B19, hB19⟩ : ∃ B, B = str (((((([102, 111, 114, 32] ++ nm) ++ [32]) ++ Lib.decDigits lo) ++ [32]) ++ Lib.decDigits hi) ++ [32, 123]) := ⟨_, rfl⟩
  have qB4 : ∀ w : World, (Op.stringOp .add ⟨#[102, 111, 114, 32]⟩ NM).run Tryz.prog w = .ok (.string B4) w := fun w => by
    (try rw [hB4]); (try rw [hNM]); exact add_str ([102, 111, 114, 32]) (nm) (by simp only [List.length_cons, List.length_nil] at hlen ⊢; omega) w
  have qB5 : ∀ w : World, (Op.stringOp .add B4 ⟨#[32]⟩).run Tryz.prog w = .ok (.string B5) w := fun w => by
    (try rw [hB5]); (try rw [hB4]); exact add_str (([102, 111, 114, 32] ++ nm)) ([32]) (by simp only [List.length_append, List.length_cons, List.length_nil] at hlen ⊢; omega) w
  have qB11 : ∀ w : World, (Op.stringOp .add B5 A0).run Tryz.prog w = .ok (.string B11) w := fun w => by
    (try rw [hB11]); (try rw [hB5]); (try rw [hA0]); exact add_str ((([102, 111, 114, 32] ++ nm) ++ [32])) (Lib.decDigits lo) (by simp only [List.length_append, List.length_cons, List.length_nil] at hlen ⊢; omega) w
  have qB12 : ∀ w : World, (Op.stringOp .add B11 ⟨#[32]⟩).run Tryz.prog w = .ok (.string B12) w := fun w => by
    (try rw [hB12]); (try rw [hB11]); exact add_str (((([102, 111, 114, 32] ++ nm) ++ [32]) ++ Lib.decDigits lo)) ([32]) (by simp only [List.length_append, List.length_cons, List.length_nil] at hlen ⊢; omega) w
  have qB18 : ∀ w : World, (Op.stringOp .add B12 A1).run Tryz.prog w = .ok (.string B18) w := fun w => by
    (try rw [hB18]); (try rw [hB12]); (try rw [hA1]); exact add_str ((((([102, 111, 114, 32] ++ nm) ++ [32]) ++ Lib.decDigits lo) ++ [32])) (Lib.decDigits hi) (by simp only [List.length_append, List.length_cons, List.length_nil] at hlen ⊢; omega) w
  have qB19 : ∀ w : World, (Op.stringOp .add B18 ⟨#[32, 123]⟩).run Tryz.prog w = .ok (.string B19) w := fun w => by
    (try rw [hB19]); (try rw [hB18]); exact add_str (((((([102, 111, 114, 32] ++ nm) ++ [32]) ++ Lib.decDigits lo) ++ [32]) ++ Lib.decDigits hi)) ([32, 123]) (by simp only [List.length_append, List.length_cons, List.length_nil] at hlen ⊢; omega) w
  have HF := Lib.hid (show str (St.mk 5 nm ns e a g lo hi bd el).first = B19 by rw [ht, hB19])
  clear hNM hA0 hA1 hB4 hB5 hB11 hB12 hB18 hB19 hl ht hx y0 y1 y2 y11 y12 y13 ye ya sn sg hG hG1 hmp hmp1 hB1 hlo hhi x2 x11
  go_enter Tryz.func109, Tryz.ntmps109
  go_wp2_with fail
  clear hW1 x0
  have HS : Below W1.heap.size W1 W1.drew := (Below.refl _ _).drew
  refine wp_region_held_drew (S := fun W => Below W1.heap.size W1 W ∧ W.cell? ⟨w.heap.size, 0, none⟩ = some (.map (some m)) ∧ W.cell? ⟨b, o + 1, none⟩ = some (.string NM) ∧ W.cell? ⟨b, o + 12, none⟩ = some (.int .u64 (lo : Int)) ∧ W.cell? ⟨b, o + 13, none⟩ = some (.int .u64 (hi : Int))) (by kernel_rfl) ?_ (fun hHeld => ?_)
  · exact ⟨HS, (HS.cell ht1).trans xt, (HS.cell hb1).trans x1, (HS.cell hb1).trans x12, (HS.cell hb1).trans x13⟩
  refine wpAnyH_take (i := 0) (oi := ⟨some 64, .move (.tmp 1), 145, "lines.go:92", #[], none⟩) (v := ?_) rfl (by kernel_rfl) (by kernel_rfl) (by kernel_rfl) (fun _ _ _ h => h) (Or.inl ⟨by rfl, ?_⟩) (by assumption) ?_
  rotate_left
  · (intro w hSw; (try dsimp only at hSw); go_simp; try with_reducible rfl)
  try simp only [Act.put, List.setIfInBounds_toArray, List.set_cons_zero, List.set_cons_succ]
  refine wpAnyH_take (i := 1) (oi := ⟨some 65, .nilCheck (.tmp 64), 0, "lines.go:92", #[⟨0, .data⟩], none⟩) (v := ?_) rfl (by kernel_rfl) (by kernel_rfl) (by kernel_rfl) (fun _ _ _ h => h) (Or.inl ⟨by rfl, ?_⟩) (by assumption) ?_
  rotate_left
  · (intro w hSw; (try dsimp only at hSw); go_simp; try with_reducible rfl)
  try simp only [Act.put, List.setIfInBounds_toArray, List.set_cons_zero, List.set_cons_succ]
  refine wpAnyH_take (i := 2) (oi := ⟨some 66, .fieldAddr 54 (.tmp 65) 1, 0, "lines.go:92", #[⟨1, .data⟩], none⟩) (v := ?_) rfl (by kernel_rfl) (by kernel_rfl) (by kernel_rfl) (fun _ _ _ h => h) (Or.inl ⟨by rfl, ?_⟩) (by assumption) ?_
  rotate_left
  · (intro w hSw; (try dsimp only at hSw); go_simp; try with_reducible rfl)
  try simp only [Act.put, List.setIfInBounds_toArray, List.set_cons_zero, List.set_cons_succ]
  refine wpAnyH_take (i := 3) (oi := ⟨some 67, .load 9 (.tmp 66), 9, "lines.go:92", #[⟨2, .data⟩], none⟩) (v := ?_) rfl (by kernel_rfl) (by kernel_rfl) (by kernel_rfl) (fun _ _ _ h => h) (Or.inl ⟨by rfl, ?_⟩) (by assumption) ?_
  rotate_left
  · (intro w hSw; (try dsimp only at hSw); go_simp; try with_reducible rfl)
  try simp only [Act.put, List.setIfInBounds_toArray, List.set_cons_zero, List.set_cons_succ]
  refine wpAnyH_take (i := 4) (oi := ⟨some 68, .binOp .add 9 (.const (.string ⟨#[102, 111, 114, 32]⟩)) (.tmp 67) 9, 9, "lines.go:92", #[⟨3, .data⟩], none⟩) (v := .string B4) rfl (by kernel_rfl) (by kernel_rfl) (by kernel_rfl) (fun _ _ _ h => h) (Or.inl ⟨by rfl, ?_⟩) (by assumption) ?_
  · (intro w hSw; (try dsimp only at hSw); go_simp)
  try simp only [Act.put, List.setIfInBounds_toArray, List.set_cons_zero, List.set_cons_succ]
  refine wpAnyH_take (i := 5) (oi := ⟨some 69, .binOp .add 9 (.tmp 68) (.const (.string ⟨#[32]⟩)) 9, 9, "lines.go:92", #[⟨4, .data⟩], none⟩) (v := .string B5) rfl (by kernel_rfl) (by kernel_rfl) (by kernel_rfl) (fun _ _ _ h => h) (Or.inl ⟨by rfl, ?_⟩) (by assumption) ?_
  · (intro w hSw; (try dsimp only at hSw); go_simp)
  try simp only [Act.put, List.setIfInBounds_toArray, List.set_cons_zero, List.set_cons_succ]
  refine wpAnyH_take (i := 6) (oi := ⟨some 70, .move (.tmp 1), 145, "lines.go:92", #[], none⟩) (v := ?_) rfl (by kernel_rfl) (by kernel_rfl) (by kernel_rfl) (fun _ _ _ h => h) (Or.inl ⟨by rfl, ?_⟩) (by assumption) ?_
  rotate_left
  · (intro w hSw; (try dsimp only at hSw); go_simp; try with_reducible rfl)
  try simp only [Act.put, List.setIfInBounds_toArray, List.set_cons_zero, List.set_cons_succ]
  refine wpAnyH_take (i := 7) (oi := ⟨some 71, .nilCheck (.tmp 70), 0, "lines.go:92", #[⟨6, .data⟩], none⟩) (v := ?_) rfl (by kernel_rfl) (by kernel_rfl) (by kernel_rfl) (fun _ _ _ h => h) (Or.inl ⟨by rfl, ?_⟩) (by assumption) ?_
  rotate_left
  · (intro w hSw; (try dsimp only at hSw); go_simp; try with_reducible rfl)
  try simp only [Act.put, List.setIfInBounds_toArray, List.set_cons_zero, List.set_cons_succ]
  refine wpAnyH_take (i := 8) (oi := ⟨some 72, .fieldAddr 54 (.tmp 71) 6, 0, "lines.go:92", #[⟨7, .data⟩], none⟩) (v := ?_) rfl (by kernel_rfl) (by kernel_rfl) (by kernel_rfl) (fun _ _ _ h => h) (Or.inl ⟨by rfl, ?_⟩) (by assumption) ?_
  rotate_left
  · (intro w hSw; (try dsimp only at hSw); go_simp; try with_reducible rfl)
  try simp only [Act.put, List.setIfInBounds_toArray, List.set_cons_zero, List.set_cons_succ]
  refine wpAnyH_take (i := 9) (oi := ⟨some 73, .load 23 (.tmp 72), 23, "lines.go:92", #[⟨8, .data⟩], none⟩) (v := ?_) rfl (by kernel_rfl) (by kernel_rfl) (by kernel_rfl) (fun _ _ _ h => h) (Or.inl ⟨by rfl, ?_⟩) (by assumption) ?_
  rotate_left
  · (intro w hSw; (try dsimp only at hSw); go_simp; try with_reducible rfl)
  try simp only [Act.put, List.setIfInBounds_toArray, List.set_cons_zero, List.set_cons_succ]
  refine wpAnyH_take (i := 13) (oi := ⟨some 77, .move (.tmp 1), 145, "lines.go:92", #[], none⟩) (v := ?_) rfl (by kernel_rfl) (by kernel_rfl) (by kernel_rfl) (fun _ _ _ h => h) (Or.inl ⟨by rfl, ?_⟩) (by assumption) ?_
  rotate_left
  · (intro w hSw; (try dsimp only at hSw); go_simp; try with_reducible rfl)
  try simp only [Act.put, List.setIfInBounds_toArray, List.set_cons_zero, List.set_cons_succ]
  refine wpAnyH_take (i := 14) (oi := ⟨some 78, .nilCheck (.tmp 77), 0, "lines.go:92", #[⟨13, .data⟩], none⟩) (v := ?_) rfl (by kernel_rfl) (by kernel_rfl) (by kernel_rfl) (fun _ _ _ h => h) (Or.inl ⟨by rfl, ?_⟩) (by assumption) ?_
  rotate_left
  · (intro w hSw; (try dsimp only at hSw); go_simp; try with_reducible rfl)
  try simp only [Act.put, List.setIfInBounds_toArray, List.set_cons_zero, List.set_cons_succ]
  refine wpAnyH_take (i := 15) (oi := ⟨some 79, .fieldAddr 54 (.tmp 78) 7, 0, "lines.go:92", #[⟨14, .data⟩], none⟩) (v := ?_) rfl (by kernel_rfl) (by kernel_rfl) (by kernel_rfl) (fun _ _ _ h => h) (Or.inl ⟨by rfl, ?_⟩) (by assumption) ?_
  rotate_left
  · (intro w hSw; (try dsimp only at hSw); go_simp; try with_reducible rfl)
  try simp only [Act.put, List.setIfInBounds_toArray, List.set_cons_zero, List.set_cons_succ]
  refine wpAnyH_take (i := 16) (oi := ⟨some 80, .load 23 (.tmp 79), 23, "lines.go:92", #[⟨15, .data⟩], none⟩) (v := ?_) rfl (by kernel_rfl) (by kernel_rfl) (by kernel_rfl) (fun _ _ _ h => h) (Or.inl ⟨by rfl, ?_⟩) (by assumption) ?_
  rotate_left
  · (intro w hSw; (try dsimp only at hSw); go_simp; try with_reducible rfl)
  try simp only [Act.put, List.setIfInBounds_toArray, List.set_cons_zero, List.set_cons_succ]
  refine wpAnyH_ready (rs := [10]) (by kernel_rfl) (by simp) ?_
  refine AllReadyH.cons (o := ⟨some 74, .call { callee := .value (.func 40), args := #[.tmp 73, .const (.int .i64 10)], argTypes := #[23, 3] }, 9, "lines.go:92", #[⟨9, .data⟩], none⟩) rfl (fun K hK => ?_) AllReadyH.nil
  go_simp
  refine (HLo.out _ HS).mono ?_
  rintro z wa ⟨rfl, hB'⟩
  replace HS := HS.trans (hB'.mono HS.size)
  clear hB'
  refine hK.out _ _ ?_ (fun hHeld => ?_)
  · exact ⟨HS, (HS.cell ht1).trans xt, (HS.cell hb1).trans x1, (HS.cell hb1).trans x12, (HS.cell hb1).trans x13⟩
  clear hK K
  try simp only [Act.put, List.setIfInBounds_toArray, List.set_cons_zero, List.set_cons_succ]
  refine wpAnyH_take (i := 11) (oi := ⟨some 75, .binOp .add 9 (.tmp 69) (.tmp 74) 9, 9, "lines.go:92", #[⟨5, .data⟩, ⟨10, .data⟩], none⟩) (v := .string B11) rfl (by kernel_rfl) (by kernel_rfl) (by kernel_rfl) (fun _ _ _ h => h) (Or.inl ⟨by rfl, ?_⟩) (by assumption) ?_
  · (intro w hSw; (try dsimp only at hSw); go_simp)
  try simp only [Act.put, List.setIfInBounds_toArray, List.set_cons_zero, List.set_cons_succ]
  refine wpAnyH_take (i := 12) (oi := ⟨some 76, .binOp .add 9 (.tmp 75) (.const (.string ⟨#[32]⟩)) 9, 9, "lines.go:92", #[⟨11, .data⟩], none⟩) (v := .string B12) rfl (by kernel_rfl) (by kernel_rfl) (by kernel_rfl) (fun _ _ _ h => h) (Or.inl ⟨by rfl, ?_⟩) (by assumption) ?_
  · (intro w hSw; (try dsimp only at hSw); go_simp)
  try simp only [Act.put, List.setIfInBounds_toArray, List.set_cons_zero, List.set_cons_succ]
  refine wpAnyH_ready (rs := [17]) (by kernel_rfl) (by simp) ?_
  refine AllReadyH.cons (o := ⟨some 81, .call { callee := .value (.func 40), args := #[.tmp 80, .const (.int .i64 10)], argTypes := #[23, 3] }, 9, "lines.go:92", #[⟨16, .data⟩, ⟨10, .chain⟩], none⟩) rfl (fun K hK => ?_) AllReadyH.nil
  go_simp
  refine (HHi.out _ HS).mono ?_
  rintro z wa ⟨rfl, hB'⟩
  replace HS := HS.trans (hB'.mono HS.size)
  clear hB'
  refine hK.out _ _ ?_ (fun hHeld => ?_)
  · exact ⟨HS, (HS.cell ht1).trans xt, (HS.cell hb1).trans x1, (HS.cell hb1).trans x12, (HS.cell hb1).trans x13⟩
  clear hK K
  try simp only [Act.put, List.setIfInBounds_toArray, List.set_cons_zero, List.set_cons_succ]
  refine wpAnyH_take (i := 18) (oi := ⟨some 82, .binOp .add 9 (.tmp 76) (.tmp 81) 9, 9, "lines.go:92", #[⟨12, .data⟩, ⟨17, .data⟩], none⟩) (v := .string B18) rfl (by kernel_rfl) (by kernel_rfl) (by kernel_rfl) (fun _ _ _ h => h) (Or.inl ⟨by rfl, ?_⟩) (by assumption) ?_
  · (intro w hSw; (try dsimp only at hSw); go_simp)
  try simp only [Act.put, List.setIfInBounds_toArray, List.set_cons_zero, List.set_cons_succ]
  refine wpAnyH_take (i := 19) (oi := ⟨some 83, .binOp .add 9 (.tmp 82) (.const (.string ⟨#[32, 123]⟩)) 9, 9, "lines.go:92", #[⟨18, .data⟩], none⟩) (v := .string B19) rfl (by kernel_rfl) (by kernel_rfl) (by kernel_rfl) (fun _ _ _ h => h) (Or.inl ⟨by rfl, ?_⟩) (by assumption) ?_
  · (intro w hSw; (try dsimp only at hSw); go_simp)
  try simp only [Act.put, List.setIfInBounds_toArray, List.set_cons_zero, List.set_cons_succ]
  refine wpAnyH_take (i := 20) (oi := ⟨some 4, .assign (.tmp 83), 9, "lines.go:92", #[⟨19, .data⟩, ⟨17, .chain⟩, ⟨0, .phase⟩, ⟨1, .phase⟩, ⟨2, .phase⟩, ⟨3, .phase⟩, ⟨4, .phase⟩, ⟨5, .phase⟩, ⟨6, .phase⟩, ⟨7, .phase⟩, ⟨8, .phase⟩, ⟨9, .phase⟩, ⟨10, .phase⟩, ⟨11, .phase⟩, ⟨12, .phase⟩, ⟨13, .phase⟩, ⟨14, .phase⟩, ⟨15, .phase⟩, ⟨16, .phase⟩, ⟨17, .phase⟩, ⟨18, .phase⟩, ⟨19, .phase⟩], none⟩) (v := ?_) rfl (by kernel_rfl) (by kernel_rfl) (by kernel_rfl) (fun _ _ _ h => h) (Or.inl ⟨by rfl, ?_⟩) (by assumption) ?_
  rotate_left
  · (intro w hSw; (try dsimp only at hSw); go_simp; try with_reducible rfl)
  try simp only [Act.put, List.setIfInBounds_toArray, List.set_cons_zero, List.set_cons_succ]
  refine wpAnyH_done (by kernel_rfl) ?_ _
  have HE := Lib.hid (HB1.out.trans (HS.mono HB1.out.size))
  go_wp2_with fail
  go_ret
  exact ⟨ret_strE HF.out.symm, HE.out⟩
set_option maxRecDepth 100000 in
set_option maxHeartbeats 6400000 in
theorem first_2 (nm : List UInt8) (ns : List (List UInt8)) (e a : Ex) (g : Exs) (lo hi : Nat) (bd el : Sts) (he : e.may = true) (ha : a.may = true) (b o m : Nat) (w : World) (hb : b < w.heap.size) (hx : (St.mk 2 nm ns e a g lo hi bd el).At w w.heap.size b o) (hmp : w.heap[m]? = some (fmap signT)) (hG : Glob w) (hl : (St.mk 2 nm ns e a g lo hi bd el).first.length ≤ 1000000) :
    Calls Tryz.prog 109 #[.agg #[.map (some m)], .pointer (some ⟨b, o, none⟩)] w fun z w' => z = .returned (.string (str (St.mk 2 nm ns e a g lo hi bd el).first)) ∧ Below w.heap.size w w' := by
  have ht : (St.mk 2 nm ns e a g lo hi bd el).first = (((nm ++ [91] ++ a.text ++ [93]) ++ [32, 61, 32]) ++ e.text) ++ [59] := by rw [← first_eq, firstT, if_neg (by decide), if_pos rfl]
  have hlen : nm.length + a.text.length + e.text.length ≤ 1000000 := by rw [ht] at hl; simp only [List.length_append, List.length_cons, List.length_nil] at hl; omega
  obtain ⟨W1, hW1⟩ : ∃ W1, w.alloc (.cells #[.map (some m)] 68) = W1 := ⟨_, rfl⟩
  have hB1 : Below w.heap.size w W1 := by rw [← hW1]; exact (Below.refl _ _).alloc (Nat.le_refl _) _
  have hz1 : W1.heap.size = w.heap.size + 1 := by rw [← hW1]; simp
  have xt : W1.cell? ⟨w.heap.size, 0, none⟩ = some (.map (some m)) := cell_block (show W1.heap[w.heap.size]? = some (.cells #[.map (some m)] 68 (0, 0)) by rw [← hW1]; exact heap_alloc_new w _) rfl
  obtain ⟨y0, y1, ye, ya, ⟨pn, cn, y2, hcn, sn⟩, ⟨pg, cg, y11, sg⟩, y12, y13, hlo, hhi, _, _⟩ := hx.parts
  have x0 := (hB1.cell hb).trans y0
  have x1 := (hB1.cell hb).trans y1
  have x2 := (hB1.cell hb).trans y2
  have x11 := (hB1.cell hb).trans y11
  have x12 := (hB1.cell hb).trans y12
  have x13 := (hB1.cell hb).trans y13
  have hmp1 := (hB1.block m (lt_of_block hmp)).trans hmp
  have hb1 : b < W1.heap.size := by omega
  have ht1 : w.heap.size < W1.heap.size := by omega
  have hG1 := hG.later hB1
  have HB1 := Lib.hid hB1
  have HTe := Lib.hid (fun (w1 : World) (hB : Below W1.heap.size W1 w1) => exprText_any e he b (o + 3) m w1 (Nat.lt_of_lt_of_le hb1 hB.size) (Ex.At.later ((hB1.trans (hB.mono hB1.size))) (Nat.le_trans hB1.size hB.size) e b (o + 3) hb ye) ((hB.block m (lt_of_block hmp1)).trans hmp1) (hG1.later hB) (by omega))
  have hE1 : TEnv W1.heap.size m W1.drew := ⟨hmp1, lt_of_block hmp1, fun w2 h2 => hG1 w2 ((Below.refl _ _).drew.trans h2), Nat.le_refl _⟩
  have HPl := Lib.hid (place_step _ (tell_to _) a (Nat.lt_succ_self _) ha nm b (o + 7) W1.heap.size W1.heap.size m (.slice none 0 0) [] W1.drew hb1 (Nat.le_refl _) (Ex.At.later (hB1.drew) hB1.size a b (o + 7) hb ya) hE1 (BRow.nil _ _) (by simp only [List.length_append, List.length_cons, List.length_nil]; omega))
  rw [List.nil_append] at HPl
  obtain ⟨NM, hNM⟩ : ∃ A, A = str (nm) := ⟨_, rfl⟩
  obtain ⟨A0, hA0⟩ : ∃ A, A = str (e.text) := ⟨_, rfl⟩
  obtain ⟨PT, hPT⟩ : ∃ A, A = str (nm ++ [91] ++ a.text ++ [93]) := ⟨_, rfl⟩
  rw [← hNM] at x1 HPl
  rw [← hA0] at HTe
  obtain ⟨B10, hB10⟩ : ∃ B, B = str ((nm ++ [91] ++ a.text ++ [93]) ++ [32, 61, 32]) := ⟨_, rfl⟩
  obtain ⟨B16, hB16⟩ : ∃ B, B = str (((nm ++ [91] ++ a.text ++ [93]) ++ [32, 61, 32]) ++ e.text) := ⟨_, rfl⟩
  obtain ⟨B17, hB17⟩ : ∃ B, B = str ((((nm ++ [91] ++ a.text ++ [93]) ++ [32, 61, 32]) ++ e.text) ++ [59]) := ⟨_, rfl⟩
  have qB10 : ∀ w : World, (Op.stringOp .add PT ⟨#[32, 61, 32]⟩).run Tryz.prog w = .ok (.string B10) w := fun w => by
    (try rw [hB10]); (try rw [hPT]); exact add_str ((nm ++ [91] ++ a.text ++ [93])) ([32, 61, 32]) (by simp only [List.length_append, List.length_cons, List.length_nil] at hlen ⊢; omega) w
  have qB16 : ∀ w : World, (Op.stringOp .add B10 A0).run Tryz.prog w = .ok (.string B16) w := fun w => by
    (try rw [hB16]); (try rw [hB10]); (try rw [hA0]); exact add_str (((nm ++ [91] ++ a.text ++ [93]) ++ [32, 61, 32])) (e.text) (by simp only [List.length_append, List.length_cons, List.length_nil] at hlen ⊢; omega) w
  have qB17 : ∀ w : World, (Op.stringOp .add B16 ⟨#[59]⟩).run Tryz.prog w = .ok (.string B17) w := fun w => by
    (try rw [hB17]); (try rw [hB16]); exact add_str ((((nm ++ [91] ++ a.text ++ [93]) ++ [32, 61, 32]) ++ e.text)) ([59]) (by simp only [List.length_append, List.length_cons, List.length_nil] at hlen ⊢; omega) w
  have HF := Lib.hid (show str (St.mk 2 nm ns e a g lo hi bd el).first = B17 by rw [ht, hB17])
  have HPT := Lib.hid hPT
  clear hNM hA0 hPT hB10 hB16 hB17 hl ht hx y0 y1 y2 y11 y12 y13 ye ya sn sg hG hG1 hmp hmp1 hB1 hlo hhi hE1 x2 x11 x12 x13
  go_enter Tryz.func109, Tryz.ntmps109
  go_wp2_with fail
  clear hW1 x0
  have HS : Below W1.heap.size W1 W1.drew := (Below.refl _ _).drew
  refine wp_region_held_drew (S := fun W => Below W1.heap.size W1 W ∧ W.cell? ⟨w.heap.size, 0, none⟩ = some (.map (some m)) ∧ W.cell? ⟨b, o + 1, none⟩ = some (.string NM)) (by kernel_rfl) ?_ (fun hHeld => ?_)
  · exact ⟨HS, (HS.cell ht1).trans xt, (HS.cell hb1).trans x1⟩
  refine wpAnyH_take (i := 0) (oi := ⟨some 26, .load 68 (.tmp 2), 68, "lines.go:86", #[], none⟩) (v := ?_) rfl (by kernel_rfl) (by kernel_rfl) (by kernel_rfl) (fun _ _ _ h => h) (Or.inl ⟨by rfl, ?_⟩) (by assumption) ?_
  rotate_left
  · (intro w hSw; (try dsimp only at hSw); go_simp; try with_reducible rfl)
  try simp only [Act.put, List.setIfInBounds_toArray, List.set_cons_zero, List.set_cons_succ]
  refine wpAnyH_take (i := 1) (oi := ⟨some 27, .move (.tmp 1), 145, "lines.go:86", #[], none⟩) (v := ?_) rfl (by kernel_rfl) (by kernel_rfl) (by kernel_rfl) (fun _ _ _ h => h) (Or.inl ⟨by rfl, ?_⟩) (by assumption) ?_
  rotate_left
  · (intro w hSw; (try dsimp only at hSw); go_simp; try with_reducible rfl)
  try simp only [Act.put, List.setIfInBounds_toArray, List.set_cons_zero, List.set_cons_succ]
  refine wpAnyH_take (i := 2) (oi := ⟨some 28, .nilCheck (.tmp 27), 0, "lines.go:86", #[⟨1, .data⟩], none⟩) (v := ?_) rfl (by kernel_rfl) (by kernel_rfl) (by kernel_rfl) (fun _ _ _ h => h) (Or.inl ⟨by rfl, ?_⟩) (by assumption) ?_
  rotate_left
  · (intro w hSw; (try dsimp only at hSw); go_simp; try with_reducible rfl)
  try simp only [Act.put, List.setIfInBounds_toArray, List.set_cons_zero, List.set_cons_succ]
  refine wpAnyH_take (i := 3) (oi := ⟨some 29, .fieldAddr 54 (.tmp 28) 1, 0, "lines.go:86", #[⟨2, .data⟩], none⟩) (v := ?_) rfl (by kernel_rfl) (by kernel_rfl) (by kernel_rfl) (fun _ _ _ h => h) (Or.inl ⟨by rfl, ?_⟩) (by assumption) ?_
  rotate_left
  · (intro w hSw; (try dsimp only at hSw); go_simp; try with_reducible rfl)
  try simp only [Act.put, List.setIfInBounds_toArray, List.set_cons_zero, List.set_cons_succ]
  refine wpAnyH_take (i := 4) (oi := ⟨some 30, .load 9 (.tmp 29), 9, "lines.go:86", #[⟨3, .data⟩], none⟩) (v := ?_) rfl (by kernel_rfl) (by kernel_rfl) (by kernel_rfl) (fun _ _ _ h => h) (Or.inl ⟨by rfl, ?_⟩) (by assumption) ?_
  rotate_left
  · (intro w hSw; (try dsimp only at hSw); go_simp; try with_reducible rfl)
  try simp only [Act.put, List.setIfInBounds_toArray, List.set_cons_zero, List.set_cons_succ]
  refine wpAnyH_take (i := 5) (oi := ⟨some 31, .move (.tmp 1), 145, "lines.go:86", #[], none⟩) (v := ?_) rfl (by kernel_rfl) (by kernel_rfl) (by kernel_rfl) (fun _ _ _ h => h) (Or.inl ⟨by rfl, ?_⟩) (by assumption) ?_
  rotate_left
  · (intro w hSw; (try dsimp only at hSw); go_simp; try with_reducible rfl)
  try simp only [Act.put, List.setIfInBounds_toArray, List.set_cons_zero, List.set_cons_succ]
  refine wpAnyH_take (i := 6) (oi := ⟨some 32, .nilCheck (.tmp 31), 0, "lines.go:86", #[⟨5, .data⟩], none⟩) (v := ?_) rfl (by kernel_rfl) (by kernel_rfl) (by kernel_rfl) (fun _ _ _ h => h) (Or.inl ⟨by rfl, ?_⟩) (by assumption) ?_
  rotate_left
  · (intro w hSw; (try dsimp only at hSw); go_simp; try with_reducible rfl)
  try simp only [Act.put, List.setIfInBounds_toArray, List.set_cons_zero, List.set_cons_succ]
  refine wpAnyH_take (i := 7) (oi := ⟨some 33, .fieldAddr 54 (.tmp 32) 4, 0, "lines.go:86", #[⟨6, .data⟩], none⟩) (v := ?_) rfl (by kernel_rfl) (by kernel_rfl) (by kernel_rfl) (fun _ _ _ h => h) (Or.inl ⟨by rfl, ?_⟩) (by assumption) ?_
  rotate_left
  · (intro w hSw; (try dsimp only at hSw); go_simp; try with_reducible rfl)
  try simp only [Act.put, List.setIfInBounds_toArray, List.set_cons_zero, List.set_cons_succ]
  refine wpAnyH_take (i := 11) (oi := ⟨some 37, .load 68 (.tmp 2), 68, "lines.go:86", #[], none⟩) (v := ?_) rfl (by kernel_rfl) (by kernel_rfl) (by kernel_rfl) (fun _ _ _ h => h) (Or.inl ⟨by rfl, ?_⟩) (by assumption) ?_
  rotate_left
  · (intro w hSw; (try dsimp only at hSw); go_simp; try with_reducible rfl)
  try simp only [Act.put, List.setIfInBounds_toArray, List.set_cons_zero, List.set_cons_succ]
  refine wpAnyH_take (i := 12) (oi := ⟨some 38, .move (.tmp 1), 145, "lines.go:86", #[], none⟩) (v := ?_) rfl (by kernel_rfl) (by kernel_rfl) (by kernel_rfl) (fun _ _ _ h => h) (Or.inl ⟨by rfl, ?_⟩) (by assumption) ?_
  rotate_left
  · (intro w hSw; (try dsimp only at hSw); go_simp; try with_reducible rfl)
  try simp only [Act.put, List.setIfInBounds_toArray, List.set_cons_zero, List.set_cons_succ]
  refine wpAnyH_take (i := 13) (oi := ⟨some 39, .nilCheck (.tmp 38), 0, "lines.go:86", #[⟨12, .data⟩], none⟩) (v := ?_) rfl (by kernel_rfl) (by kernel_rfl) (by kernel_rfl) (fun _ _ _ h => h) (Or.inl ⟨by rfl, ?_⟩) (by assumption) ?_
  rotate_left
  · (intro w hSw; (try dsimp only at hSw); go_simp; try with_reducible rfl)
  try simp only [Act.put, List.setIfInBounds_toArray, List.set_cons_zero, List.set_cons_succ]
  refine wpAnyH_take (i := 14) (oi := ⟨some 40, .fieldAddr 54 (.tmp 39) 3, 0, "lines.go:86", #[⟨13, .data⟩], none⟩) (v := ?_) rfl (by kernel_rfl) (by kernel_rfl) (by kernel_rfl) (fun _ _ _ h => h) (Or.inl ⟨by rfl, ?_⟩) (by assumption) ?_
  rotate_left
  · (intro w hSw; (try dsimp only at hSw); go_simp; try with_reducible rfl)
  try simp only [Act.put, List.setIfInBounds_toArray, List.set_cons_zero, List.set_cons_succ]
  refine wpAnyH_ready (rs := [8]) (by kernel_rfl) (by simp) ?_
  refine AllReadyH.cons (o := ⟨some 34, .call { callee := .value (.func 119), args := #[.tmp 26, .const (.slice none 0 0), .tmp 30, .tmp 33], argTypes := #[68, 83, 9, 71] }, 83, "lines.go:86", #[⟨0, .data⟩, ⟨4, .data⟩, ⟨7, .data⟩], none⟩) rfl (fun K hK => ?_) AllReadyH.nil
  go_simp
  refine HPl.out.mono ?_
  rintro z wa ⟨⟨v, rfl, hR⟩, hF'⟩
  have HR := Lib.hid hR
  have HW := Lib.hid (show W1.heap.size ≤ wa.heap.size from hF'.1.size)
  replace HS := HS.trans hF'.1
  clear hR hF'
  refine hK.out _ _ ?_ (fun hHeld => ?_)
  · exact ⟨HS, (HS.cell ht1).trans xt, (HS.cell hb1).trans x1⟩
  clear hK K
  try simp only [Act.put, List.setIfInBounds_toArray, List.set_cons_zero, List.set_cons_succ]
  refine wpAnyH_ready (rs := [9, 15]) (by kernel_rfl) (by simp) ?_
  refine AllReadyH.cons (o := ⟨some 35, .convert 83 9 (.tmp 34), 9, "lines.go:86", #[⟨8, .data⟩], none⟩) rfl (fun K hK => ?_) (AllReadyH.cons (o := ⟨some 41, .call { callee := .value (.func 37), args := #[.tmp 37, .tmp 40], argTypes := #[68, 71] }, 9, "lines.go:86", #[⟨11, .data⟩, ⟨14, .data⟩, ⟨8, .chain⟩], none⟩) rfl (fun K hK => ?_) AllReadyH.nil)
  · go_simp
    have hcv := BRow.conv HR.out
    rw [← HPT.out] at hcv
    go_simp
    refine hK.out _ _ ?_ (fun hHeld => ?_)
    · exact ⟨HS, (HS.cell ht1).trans xt, (HS.cell hb1).trans x1⟩
    clear hK K
    try simp only [Act.put, List.setIfInBounds_toArray, List.set_cons_zero, List.set_cons_succ]
    refine wpAnyH_take (i := 10) (oi := ⟨some 36, .binOp .add 9 (.tmp 35) (.const (.string ⟨#[32, 61, 32]⟩)) 9, 9, "lines.go:86", #[⟨9, .data⟩], none⟩) (v := .string B10) rfl (by kernel_rfl) (by kernel_rfl) (by kernel_rfl) (fun _ _ _ h => h) (Or.inl ⟨by rfl, ?_⟩) (by assumption) ?_
    · (intro w hSw; (try dsimp only at hSw); go_simp)
    try simp only [Act.put, List.setIfInBounds_toArray, List.set_cons_zero, List.set_cons_succ]
    refine wpAnyH_ready (rs := [15]) (by kernel_rfl) (by simp) ?_
    refine AllReadyH.cons (o := ⟨some 41, .call { callee := .value (.func 37), args := #[.tmp 37, .tmp 40], argTypes := #[68, 71] }, 9, "lines.go:86", #[⟨11, .data⟩, ⟨14, .data⟩, ⟨8, .chain⟩], none⟩) rfl (fun K hK => ?_) AllReadyH.nil
    go_simp
    refine (HTe.out _ HS).mono ?_
    rintro z wa ⟨rfl, hB'⟩
    replace HS := HS.trans (hB'.mono HS.size)
    clear hB'
    refine hK.out _ _ ?_ (fun hHeld => ?_)
    · exact ⟨HS, (HS.cell ht1).trans xt, (HS.cell hb1).trans x1⟩
    clear hK K
    try simp only [Act.put, List.setIfInBounds_toArray, List.set_cons_zero, List.set_cons_succ]
    refine wpAnyH_take (i := 16) (oi := ⟨some 42, .binOp .add 9 (.tmp 36) (.tmp 41) 9, 9, "lines.go:86", #[⟨10, .data⟩, ⟨15, .data⟩], none⟩) (v := .string B16) rfl (by kernel_rfl) (by kernel_rfl) (by kernel_rfl) (fun _ _ _ h => h) (Or.inl ⟨by rfl, ?_⟩) (by assumption) ?_
    · (intro w hSw; (try dsimp only at hSw); go_simp)
    try simp only [Act.put, List.setIfInBounds_toArray, List.set_cons_zero, List.set_cons_succ]
    refine wpAnyH_take (i := 17) (oi := ⟨some 43, .binOp .add 9 (.tmp 42) (.const (.string ⟨#[59]⟩)) 9, 9, "lines.go:86", #[⟨16, .data⟩], none⟩) (v := .string B17) rfl (by kernel_rfl) (by kernel_rfl) (by kernel_rfl) (fun _ _ _ h => h) (Or.inl ⟨by rfl, ?_⟩) (by assumption) ?_
    · (intro w hSw; (try dsimp only at hSw); go_simp)
    try simp only [Act.put, List.setIfInBounds_toArray, List.set_cons_zero, List.set_cons_succ]
    refine wpAnyH_take (i := 18) (oi := ⟨some 4, .assign (.tmp 43), 9, "lines.go:86", #[⟨17, .data⟩, ⟨15, .chain⟩, ⟨0, .phase⟩, ⟨1, .phase⟩, ⟨2, .phase⟩, ⟨3, .phase⟩, ⟨4, .phase⟩, ⟨5, .phase⟩, ⟨6, .phase⟩, ⟨7, .phase⟩, ⟨8, .phase⟩, ⟨9, .phase⟩, ⟨10, .phase⟩, ⟨11, .phase⟩, ⟨12, .phase⟩, ⟨13, .phase⟩, ⟨14, .phase⟩, ⟨15, .phase⟩, ⟨16, .phase⟩, ⟨17, .phase⟩], none⟩) (v := ?_) rfl (by kernel_rfl) (by kernel_rfl) (by kernel_rfl) (fun _ _ _ h => h) (Or.inl ⟨by rfl, ?_⟩) (by assumption) ?_
    rotate_left
    · (intro w hSw; (try dsimp only at hSw); go_simp; try with_reducible rfl)
    try simp only [Act.put, List.setIfInBounds_toArray, List.set_cons_zero, List.set_cons_succ]
    refine wpAnyH_done (by kernel_rfl) ?_ _
    have HE := Lib.hid (HB1.out.trans (HS.mono HB1.out.size))
    go_wp2_with fail
    go_ret
    exact ⟨ret_strE HF.out.symm, HE.out⟩
  · go_simp
    refine (HTe.out _ HS).mono ?_
    rintro z wb ⟨rfl, hB'⟩
    replace HR := Lib.hid (HR.out.later hB')
    replace HS := HS.trans (hB'.mono HS.size)
    clear hB'
    refine hK.out _ _ ?_ (fun hHeld => ?_)
    · exact ⟨HS, (HS.cell ht1).trans xt, (HS.cell hb1).trans x1⟩
    clear hK K
    try simp only [Act.put, List.setIfInBounds_toArray, List.set_cons_zero, List.set_cons_succ]
    refine wpAnyH_ready (rs := [9]) (by kernel_rfl) (by simp) ?_
    refine AllReadyH.cons (o := ⟨some 35, .convert 83 9 (.tmp 34), 9, "lines.go:86", #[⟨8, .data⟩], none⟩) rfl (fun K hK => ?_) AllReadyH.nil
    go_simp
    have hcv := BRow.conv HR.out
    rw [← HPT.out] at hcv
    go_simp
    refine hK.out _ _ ?_ (fun hHeld => ?_)
    · exact ⟨HS, (HS.cell ht1).trans xt, (HS.cell hb1).trans x1⟩
    clear hK K
    try simp only [Act.put, List.setIfInBounds_toArray, List.set_cons_zero, List.set_cons_succ]
    refine wpAnyH_take (i := 10) (oi := ⟨some 36, .binOp .add 9 (.tmp 35) (.const (.string ⟨#[32, 61, 32]⟩)) 9, 9, "lines.go:86", #[⟨9, .data⟩], none⟩) (v := .string B10) rfl (by kernel_rfl) (by kernel_rfl) (by kernel_rfl) (fun _ _ _ h => h) (Or.inl ⟨by rfl, ?_⟩) (by assumption) ?_
    · (intro w hSw; (try dsimp only at hSw); go_simp)
    try simp only [Act.put, List.setIfInBounds_toArray, List.set_cons_zero, List.set_cons_succ]
    refine wpAnyH_take (i := 16) (oi := ⟨some 42, .binOp .add 9 (.tmp 36) (.tmp 41) 9, 9, "lines.go:86", #[⟨10, .data⟩, ⟨15, .data⟩], none⟩) (v := .string B16) rfl (by kernel_rfl) (by kernel_rfl) (by kernel_rfl) (fun _ _ _ h => h) (Or.inl ⟨by rfl, ?_⟩) (by assumption) ?_
    · (intro w hSw; (try dsimp only at hSw); go_simp)
    try simp only [Act.put, List.setIfInBounds_toArray, List.set_cons_zero, List.set_cons_succ]
    refine wpAnyH_take (i := 17) (oi := ⟨some 43, .binOp .add 9 (.tmp 42) (.const (.string ⟨#[59]⟩)) 9, 9, "lines.go:86", #[⟨16, .data⟩], none⟩) (v := .string B17) rfl (by kernel_rfl) (by kernel_rfl) (by kernel_rfl) (fun _ _ _ h => h) (Or.inl ⟨by rfl, ?_⟩) (by assumption) ?_
    · (intro w hSw; (try dsimp only at hSw); go_simp)
    try simp only [Act.put, List.setIfInBounds_toArray, List.set_cons_zero, List.set_cons_succ]
    refine wpAnyH_take (i := 18) (oi := ⟨some 4, .assign (.tmp 43), 9, "lines.go:86", #[⟨17, .data⟩, ⟨15, .chain⟩, ⟨0, .phase⟩, ⟨1, .phase⟩, ⟨2, .phase⟩, ⟨3, .phase⟩, ⟨4, .phase⟩, ⟨5, .phase⟩, ⟨6, .phase⟩, ⟨7, .phase⟩, ⟨8, .phase⟩, ⟨9, .phase⟩, ⟨10, .phase⟩, ⟨11, .phase⟩, ⟨12, .phase⟩, ⟨13, .phase⟩, ⟨14, .phase⟩, ⟨15, .phase⟩, ⟨16, .phase⟩, ⟨17, .phase⟩], none⟩) (v := ?_) rfl (by kernel_rfl) (by kernel_rfl) (by kernel_rfl) (fun _ _ _ h => h) (Or.inl ⟨by rfl, ?_⟩) (by assumption) ?_
    rotate_left
    · (intro w hSw; (try dsimp only at hSw); go_simp; try with_reducible rfl)
    try simp only [Act.put, List.setIfInBounds_toArray, List.set_cons_zero, List.set_cons_succ]
    refine wpAnyH_done (by kernel_rfl) ?_ _
    have HE := Lib.hid (HB1.out.trans (HS.mono HB1.out.size))
    go_wp2_with fail
    go_ret
    exact ⟨ret_strE HF.out.symm, HE.out⟩
end Go.Proofs.YtlhbledakddbbaaGreatDoor
/- A call's line; a statement's first line, of any kind. -/
namespace Go.Proofs.YtlhbledakddbbaaGreatDoor
open Go.RowKit

theorem row_cells {w : World} {_N b o : Nat} {ns : List (List UInt8)} (h : Row (StrAt w) 1 ns b o) : ∀ (j : Nat) x, (ns.map str)[j]? = some x → w.cell? ⟨b, o + j, none⟩ = some (.string x) := by
  intro j x hj
  rw [List.getElem?_map] at hj
  cases hn : ns[j]? with
  | none => rw [hn] at hj; cases hj
  | some y =>
    rw [hn] at hj
    cases hj
    have := Row.get h hn
    rw [Nat.mul_one] at this
    exact this
theorem map_data (ns : List (List UInt8)) : (ns.map str).map (·.data.toList) = ns := by
  rw [List.map_map]
  have : (fun x : ByteArray => x.data.toList) ∘ str = id := by funext x; rfl
  rw [this, List.map_id]
/-- texts joined -/
theorem join_any (ns : List (List UInt8)) (p : Option Addr) (c N : Nat) (w : World) (hN : N ≤ w.heap.size) (h : ns.length ≤ c ∧ RowIn N (StrAt w) 1 ns p) (hl : (Lib.join ns [44, 32]).length ≤ 1000000) :
    Calls Tryz.prog 138 #[.slice p ns.length c, .string ⟨#[44, 32]⟩] w fun e w' => e = .returned (.string (str (Lib.join ns [44, 32]))) ∧ Below w.heap.size w w' := by
  obtain ⟨hc, hm, h0 | ⟨b, o, rfl, hb, ha⟩⟩ := h
  · have : ns = [] := List.length_eq_zero_iff.1 h0
    subst this
    refine (Tryz.strings_Join_none p c ⟨#[44, 32]⟩ w).mono ?_
    rintro e w' ⟨rfl, rfl⟩
    exact ⟨rfl, Below.refl _ _⟩
  · have hd := map_data ns
    have hs : (⟨#[44, 32]⟩ : ByteArray).data.toList = [44, 32] := rfl
    have := Tryz.strings_Join b o c (ns.map str) ⟨#[44, 32]⟩ w (row_cells (_N := N) ha) (by omega) (by simpa using hm) (by simpa using hc) (by rw [hd, hs]; omega)
    rw [List.length_map, hd, hs] at this
    exact this

set_option maxRecDepth 100000 in
set_option maxHeartbeats 6400000 in
theorem first_6 (nm : List UInt8) (ns : List (List UInt8)) (e a : Ex) (g : Exs) (lo hi : Nat) (bd el : Sts) (hg : g.may = true) (b o m : Nat) (w : World) (hb : b < w.heap.size) (hx : (St.mk 6 nm ns e a g lo hi bd el).At w w.heap.size b o) (hmp : w.heap[m]? = some (fmap signT)) (hG : Glob w) (hl : (St.mk 6 nm ns e a g lo hi bd el).first.length ≤ 1000000) :
    Calls Tryz.prog 109 #[.agg #[.map (some m)], .pointer (some ⟨b, o, none⟩)] w fun z w' => z = .returned (.string (str (St.mk 6 nm ns e a g lo hi bd el).first)) ∧ Below w.heap.size w w' := by
  have hlen : nm.length + (Lib.join g.texts [44, 32]).length ≤ 1000000 ∧ (ns.length ≠ 0 → (Lib.join ns [44, 32]).length + nm.length + (Lib.join g.texts [44, 32]).length ≤ 1000000) := by
    rw [← first_eq, firstT, if_neg (by decide), if_neg (by decide), if_neg (by decide), if_neg (by decide), if_neg (by decide)] at hl
    split at hl
    · rename_i h0; simp only [List.length_append, List.length_cons, List.length_nil] at hl; exact ⟨by omega, fun h => absurd h0 h⟩
    · simp only [List.length_append, List.length_cons, List.length_nil] at hl; exact ⟨by omega, fun _ => by omega⟩
  obtain ⟨W1, hW1⟩ : ∃ W1, w.alloc (.cells #[.map (some m)] 68) = W1 := ⟨_, rfl⟩
  have hB1 : Below w.heap.size w W1 := by rw [← hW1]; exact (Below.refl _ _).alloc (Nat.le_refl _) _
  have hz1 : W1.heap.size = w.heap.size + 1 := by rw [← hW1]; simp
  have xt : W1.cell? ⟨w.heap.size, 0, none⟩ = some (.map (some m)) := cell_block (show W1.heap[w.heap.size]? = some (.cells #[.map (some m)] 68 (0, 0)) by rw [← hW1]; exact heap_alloc_new w _) rfl
  obtain ⟨y0, y1, ye, ya, ⟨pn, cn, y2, hcn, sn⟩, ⟨pg, cg, y11, sg⟩, y12, y13, hlo, hhi, _, _⟩ := hx.parts
  have x0 := (hB1.cell hb).trans y0
  have x1 := (hB1.cell hb).trans y1
  have x2 := (hB1.cell hb).trans y2
  have x11 := (hB1.cell hb).trans y11
  have x12 := (hB1.cell hb).trans y12
  have x13 := (hB1.cell hb).trans y13
  have hmp1 := (hB1.block m (lt_of_block hmp)).trans hmp
  have hb1 : b < W1.heap.size := by omega
  have ht1 : w.heap.size < W1.heap.size := by omega
  have hG1 := hG.later hB1
  have HB1 := Lib.hid hB1
  have ht0 : ns.length = 0 → (St.mk 6 nm ns e a g lo hi bd el).first = ((nm ++ ([40] ++ Lib.join g.texts [44, 32] ++ [41])) ++ [59]) := fun h => by rw [← first_eq, firstT, if_neg (by decide), if_neg (by decide), if_neg (by decide), if_neg (by decide), if_neg (by decide), if_pos h]
  have ht1 : ¬ ns.length = 0 → (St.mk 6 nm ns e a g lo hi bd el).first = (Lib.join ns [44, 32] ++ [32, 61, 32]) ++ ((nm ++ ([40] ++ Lib.join g.texts [44, 32] ++ [41])) ++ [59]) := fun h => by rw [← first_eq, firstT, if_neg (by decide), if_neg (by decide), if_neg (by decide), if_neg (by decide), if_neg (by decide), if_neg h]
  obtain ⟨v0, Wc, hcv0, hR0, hBc, hzc⟩ := conv_bytes (P := Tryz.prog) W1.drew 9 83 5 nm Tryz.underlying9 Tryz.underlying83 Tryz.underlying5 (by omega)
  have hBW : Below W1.heap.size W1 Wc := (Below.refl _ W1).drew.trans hBc
  have hE1 : TEnv W1.heap.size m Wc := ⟨(hBW.block m (lt_of_block hmp1)).trans hmp1, lt_of_block hmp1, fun w2 h2 => hG1 w2 (hBW.trans h2), hBW.size⟩
  have HLi := Lib.hid (list_step _ (tell_to _) g (Nat.lt_succ_self _) hg pg cg W1.heap.size W1.heap.size m v0 nm Wc (Nat.le_refl _) (sg.later ((hB1.trans (hBW.mono hB1.size))) hB1.size) hE1 hR0 (by simp only [List.length_append, List.length_cons, List.length_nil]; omega))
  have HJn := Lib.hid (fun (w1 : World) (hB : Below w.heap.size w w1) (hj : (Lib.join ns [44, 32]).length ≤ 1000000) => join_any ns pn cn w.heap.size w1 hB.size ⟨hcn, sn.imp (Nat.le_refl _) (StrAt.later hB)⟩ hj)
  have hmn := sn.1
  obtain ⟨NM, hNM⟩ : ∃ A, A = str (nm) := ⟨_, rfl⟩
  rw [← hNM] at x1
  have hcv0 : (convert 9 83 (.string NM)).run Tryz.prog W1.drew = .ok v0 Wc := by rw [hNM]; exact hcv0
  obtain ⟨PT, hPT⟩ : ∃ A, A = str (nm ++ ([40] ++ Lib.join g.texts [44, 32] ++ [41])) := ⟨_, rfl⟩
  obtain ⟨B12, hB12⟩ : ∃ B, B = str ((nm ++ ([40] ++ Lib.join g.texts [44, 32] ++ [41])) ++ [59]) := ⟨_, rfl⟩
  have qB12 : ∀ w : World, (Op.stringOp .add PT ⟨#[59]⟩).run Tryz.prog w = .ok (.string B12) w := fun w => by
    rw [hPT, hB12]; exact add_str (nm ++ ([40] ++ Lib.join g.texts [44, 32] ++ [41])) [59] (by simp only [List.length_append, List.length_cons, List.length_nil]; omega) w
  have HPT := Lib.hid hPT
  have HB12 := Lib.hid hB12
  have HL := Lib.hid hlen
  have HT0 := Lib.hid ht0
  have HT1 := Lib.hid ht1
  have HCV := Lib.hid hcv0
  have HBW := Lib.hid hBW
  clear hNM hPT hB12 hl hx y0 y1 y2 y11 y12 y13 ye ya sn sg hG hG1 hmp hmp1 hB1 hlo hhi hE1 hR0 hBc hzc hlen ht0 ht1 hcv0 hBW x12 x13
  go_enter Tryz.func109, Tryz.ntmps109
  go_wp2_with fail
  clear hW1 x0
  have HS : Below W1.heap.size W1 W1.drew := (Below.refl _ _).drew
  refine wp_region_held_drew (S := fun W => Below W1.heap.size W1 W ∧ W.cell? ⟨w.heap.size, 0, none⟩ = some (.map (some m)) ∧ W.cell? ⟨b, o + 1, none⟩ = some (.string NM) ∧ W.cell? ⟨b, o + 11, none⟩ = some (.slice pg g.len cg)) (by kernel_rfl) ?_ (fun hHeld => ?_)
  · exact ⟨HS, (HS.cell ht1).trans xt, (HS.cell hb1).trans x1, (HS.cell hb1).trans x11⟩
  refine wpAnyH_take (i := 0) (oi := ⟨some 84, .load 68 (.tmp 2), 68, "lines.go:94", #[], none⟩) (v := ?_) rfl (by kernel_rfl) (by kernel_rfl) (by kernel_rfl) (fun _ _ _ h => h) (Or.inl ⟨by rfl, ?_⟩) (by assumption) ?_
  rotate_left
  · (intro w hSw; (try dsimp only at hSw); go_simp; try with_reducible rfl)
  try simp only [Act.put, List.setIfInBounds_toArray, List.set_cons_zero, List.set_cons_succ]
  refine wpAnyH_take (i := 1) (oi := ⟨some 85, .move (.tmp 1), 145, "lines.go:94", #[], none⟩) (v := ?_) rfl (by kernel_rfl) (by kernel_rfl) (by kernel_rfl) (fun _ _ _ h => h) (Or.inl ⟨by rfl, ?_⟩) (by assumption) ?_
  rotate_left
  · (intro w hSw; (try dsimp only at hSw); go_simp; try with_reducible rfl)
  try simp only [Act.put, List.setIfInBounds_toArray, List.set_cons_zero, List.set_cons_succ]
  refine wpAnyH_take (i := 2) (oi := ⟨some 86, .nilCheck (.tmp 85), 0, "lines.go:94", #[⟨1, .data⟩], none⟩) (v := ?_) rfl (by kernel_rfl) (by kernel_rfl) (by kernel_rfl) (fun _ _ _ h => h) (Or.inl ⟨by rfl, ?_⟩) (by assumption) ?_
  rotate_left
  · (intro w hSw; (try dsimp only at hSw); go_simp; try with_reducible rfl)
  try simp only [Act.put, List.setIfInBounds_toArray, List.set_cons_zero, List.set_cons_succ]
  refine wpAnyH_take (i := 3) (oi := ⟨some 87, .fieldAddr 54 (.tmp 86) 1, 0, "lines.go:94", #[⟨2, .data⟩], none⟩) (v := ?_) rfl (by kernel_rfl) (by kernel_rfl) (by kernel_rfl) (fun _ _ _ h => h) (Or.inl ⟨by rfl, ?_⟩) (by assumption) ?_
  rotate_left
  · (intro w hSw; (try dsimp only at hSw); go_simp; try with_reducible rfl)
  try simp only [Act.put, List.setIfInBounds_toArray, List.set_cons_zero, List.set_cons_succ]
  refine wpAnyH_take (i := 4) (oi := ⟨some 88, .load 9 (.tmp 87), 9, "lines.go:94", #[⟨3, .data⟩], none⟩) (v := ?_) rfl (by kernel_rfl) (by kernel_rfl) (by kernel_rfl) (fun _ _ _ h => h) (Or.inl ⟨by rfl, ?_⟩) (by assumption) ?_
  rotate_left
  · (intro w hSw; (try dsimp only at hSw); go_simp; try with_reducible rfl)
  try simp only [Act.put, List.setIfInBounds_toArray, List.set_cons_zero, List.set_cons_succ]
  refine wpAnyH_take (i := 6) (oi := ⟨some 90, .move (.tmp 1), 145, "lines.go:94", #[], none⟩) (v := ?_) rfl (by kernel_rfl) (by kernel_rfl) (by kernel_rfl) (fun _ _ _ h => h) (Or.inl ⟨by rfl, ?_⟩) (by assumption) ?_
  rotate_left
  · (intro w hSw; (try dsimp only at hSw); go_simp; try with_reducible rfl)
  try simp only [Act.put, List.setIfInBounds_toArray, List.set_cons_zero, List.set_cons_succ]
  refine wpAnyH_take (i := 7) (oi := ⟨some 91, .nilCheck (.tmp 90), 0, "lines.go:94", #[⟨6, .data⟩], none⟩) (v := ?_) rfl (by kernel_rfl) (by kernel_rfl) (by kernel_rfl) (fun _ _ _ h => h) (Or.inl ⟨by rfl, ?_⟩) (by assumption) ?_
  rotate_left
  · (intro w hSw; (try dsimp only at hSw); go_simp; try with_reducible rfl)
  try simp only [Act.put, List.setIfInBounds_toArray, List.set_cons_zero, List.set_cons_succ]
  refine wpAnyH_take (i := 8) (oi := ⟨some 92, .fieldAddr 54 (.tmp 91) 5, 0, "lines.go:94", #[⟨7, .data⟩], none⟩) (v := ?_) rfl (by kernel_rfl) (by kernel_rfl) (by kernel_rfl) (fun _ _ _ h => h) (Or.inl ⟨by rfl, ?_⟩) (by assumption) ?_
  rotate_left
  · (intro w hSw; (try dsimp only at hSw); go_simp; try with_reducible rfl)
  try simp only [Act.put, List.setIfInBounds_toArray, List.set_cons_zero, List.set_cons_succ]
  refine wpAnyH_take (i := 9) (oi := ⟨some 93, .load 24 (.tmp 92), 24, "lines.go:94", #[⟨8, .data⟩], none⟩) (v := ?_) rfl (by kernel_rfl) (by kernel_rfl) (by kernel_rfl) (fun _ _ _ h => h) (Or.inl ⟨by rfl, ?_⟩) (by assumption) ?_
  rotate_left
  · (intro w hSw; (try dsimp only at hSw); go_simp; try with_reducible rfl)
  try simp only [Act.put, List.setIfInBounds_toArray, List.set_cons_zero, List.set_cons_succ]
  refine wpAnyH_ready (rs := [5]) (by kernel_rfl) (by simp) ?_
  refine AllReadyH.cons (o := ⟨some 89, .convert 9 83 (.tmp 88), 83, "lines.go:94", #[⟨4, .data⟩], none⟩) rfl (fun K hK => ?_) AllReadyH.nil
  go_simp
  have hcv0 := HCV.out
  go_simp
  clear hcv0
  replace HS := HBW.out
  refine hK.out _ _ ?_ (fun hHeld => ?_)
  · exact ⟨HS, (HS.cell ht1).trans xt, (HS.cell hb1).trans x1, (HS.cell hb1).trans x11⟩
  clear hK K
  try simp only [Act.put, List.setIfInBounds_toArray, List.set_cons_zero, List.set_cons_succ]
  refine wpAnyH_ready (rs := [10]) (by kernel_rfl) (by simp) ?_
  refine AllReadyH.cons (o := ⟨some 94, .call { callee := .value (.func 120), args := #[.tmp 84, .tmp 89, .tmp 93], argTypes := #[68, 83, 24] }, 83, "lines.go:94", #[⟨0, .data⟩, ⟨5, .data⟩, ⟨9, .data⟩], none⟩) rfl (fun K hK => ?_) AllReadyH.nil
  go_simp
  refine HLi.out.mono ?_
  rintro z wa ⟨⟨v, rfl, hR⟩, hF'⟩
  have HR := Lib.hid hR
  replace HS := HS.trans hF'.1
  clear hR hF'
  refine hK.out _ _ ?_ (fun hHeld => ?_)
  · exact ⟨HS, (HS.cell ht1).trans xt, (HS.cell hb1).trans x1, (HS.cell hb1).trans x11⟩
  clear hK K
  try simp only [Act.put, List.setIfInBounds_toArray, List.set_cons_zero, List.set_cons_succ]
  refine wpAnyH_ready (rs := [11]) (by kernel_rfl) (by simp) ?_
  refine AllReadyH.cons (o := ⟨some 95, .convert 83 9 (.tmp 94), 9, "lines.go:94", #[⟨10, .data⟩], none⟩) rfl (fun K hK => ?_) AllReadyH.nil
  go_simp
  have hcv := BRow.conv HR.out
  rw [← HPT.out] at hcv
  go_simp
  clear hcv
  refine hK.out _ _ ?_ (fun hHeld => ?_)
  · exact ⟨HS, (HS.cell ht1).trans xt, (HS.cell hb1).trans x1, (HS.cell hb1).trans x11⟩
  clear hK K
  try simp only [Act.put, List.setIfInBounds_toArray, List.set_cons_zero, List.set_cons_succ]
  refine wpAnyH_take (i := 12) (oi := ⟨some 96, .binOp .add 9 (.tmp 95) (.const (.string ⟨#[59]⟩)) 9, 9, "lines.go:94", #[⟨11, .data⟩], none⟩) (v := .string B12) rfl (by kernel_rfl) (by kernel_rfl) (by kernel_rfl) (fun _ _ _ h => h) (Or.inl ⟨by rfl, ?_⟩) (by assumption) ?_
  · (intro w hSw; (try dsimp only at hSw); go_simp)
  try simp only [Act.put, List.setIfInBounds_toArray, List.set_cons_zero, List.set_cons_succ]
  refine wpAnyH_take (i := 13) (oi := ⟨some 5, .assign (.tmp 96), 9, "lines.go:94", #[⟨12, .data⟩, ⟨10, .chain⟩, ⟨0, .phase⟩, ⟨1, .phase⟩, ⟨2, .phase⟩, ⟨3, .phase⟩, ⟨4, .phase⟩, ⟨5, .phase⟩, ⟨6, .phase⟩, ⟨7, .phase⟩, ⟨8, .phase⟩, ⟨9, .phase⟩, ⟨10, .phase⟩, ⟨11, .phase⟩, ⟨12, .phase⟩], none⟩) (v := ?_) rfl (by kernel_rfl) (by kernel_rfl) (by kernel_rfl) (fun _ _ _ h => h) (Or.inl ⟨by rfl, ?_⟩) (by assumption) ?_
  rotate_left
  · (intro w hSw; (try dsimp only at hSw); go_simp; try with_reducible rfl)
  try simp only [Act.put, List.setIfInBounds_toArray, List.set_cons_zero, List.set_cons_succ]
  refine wpAnyH_done (by kernel_rfl) ?_ _
  have HSE := Lib.hid (HB1.out.trans (HS.mono HB1.out.size))
  have x2' := (HS.cell hb1).trans x2
  clear HS
  by_cases h0 : ns.length = 0
  · have HF := Lib.hid (show str (St.mk 6 nm ns e a g lo hi bd el).first = B12 by rw [HT0.out h0, HB12.out])
    rw [h0] at x2'
    go_wp2_with fail
    go_ret
    exact ⟨ret_strE HF.out.symm, HSE.out⟩
  · obtain ⟨JT, hJT⟩ : ∃ J, J = str (Lib.join ns [44, 32]) := ⟨_, rfl⟩
    obtain ⟨B13, hB13⟩ : ∃ B, B = str (Lib.join ns [44, 32] ++ [32, 61, 32]) := ⟨_, rfl⟩
    obtain ⟨B14, hB14⟩ : ∃ B, B = str ((Lib.join ns [44, 32] ++ [32, 61, 32]) ++ ((nm ++ ([40] ++ Lib.join g.texts [44, 32] ++ [41])) ++ [59])) := ⟨_, rfl⟩
    have hl2 := HL.out.2 h0
    have qB13 : ∀ w : World, (Op.stringOp .add JT ⟨#[32, 61, 32]⟩).run Tryz.prog w = .ok (.string B13) w := fun w => by
      rw [hJT, hB13]; exact add_str (Lib.join ns [44, 32]) [32, 61, 32] (by simp only [List.length_cons, List.length_nil]; omega) w
    have qB14 : ∀ w : World, (Op.stringOp .add B13 B12).run Tryz.prog w = .ok (.string B14) w := fun w => by
      rw [hB13, HB12.out, hB14]; exact add_str (Lib.join ns [44, 32] ++ [32, 61, 32]) ((nm ++ ([40] ++ Lib.join g.texts [44, 32] ++ [41])) ++ [59]) (by simp only [List.length_append, List.length_cons, List.length_nil]; omega) w
    have HF := Lib.hid (show str (St.mk 6 nm ns e a g lo hi bd el).first = B14 by rw [HT1.out h0, hB14])
    have HJ2 := Lib.hid (HJn.out _ HSE.out (by omega))
    rw [← hJT] at HJ2
    have hpos : 0 < ns.length := by omega
    have hne : ((ns.length : Int) == 0) = false := by rw [beq_eq_false_iff_ne]; omega
    clear hJT hB13 hB14 hl2 h0
    generalize ns.length = nn at *
    go_wp2_with fail
    refine HJ2.out.mono ?_
    rintro z wb ⟨rfl, hB'⟩
    have HSE2 := Lib.hid (HSE.out.trans (hB'.mono HSE.out.size))
    clear hB'
    go_wp2_with fail
    go_ret
    exact ⟨ret_strE HF.out.symm, HSE2.out⟩
theorem first_any (x : St) (hm : x.may = true) (b o m : Nat) (w : World) (hb : b < w.heap.size) (hx : x.At w w.heap.size b o) (hmp : w.heap[m]? = some (fmap signT)) (hG : Glob w) (hl : x.first.length ≤ 1000000) :
    Calls Tryz.prog 109 #[.agg #[.map (some m)], .pointer (some ⟨b, o, none⟩)] w fun z w' => z = .returned (.string (str x.first)) ∧ Below w.heap.size w w' := by
  obtain ⟨kd, nm, ns, e, a, g, lo, hi, bd, el⟩ := x
  have hno : kd < 1 ∨ 6 < kd ∨ kd = 1 ∨ kd = 2 ∨ kd = 3 ∨ kd = 4 ∨ kd = 5 ∨ kd = 6 := by omega
  rcases hno with h | h | rfl | rfl | rfl | rfl | rfl | rfl
  · rw [st_may_no kd (.inl h)] at hm; cases hm
  · rw [st_may_no kd (.inr h)] at hm; cases hm
  · rw [st_may_1] at hm; simp only [Bool.and_eq_true] at hm
    exact first_1 nm ns e a g lo hi bd el hm.1.2 b o m w hb hx hmp hG hl
  · rw [st_may_2] at hm; simp only [Bool.and_eq_true] at hm
    exact first_2 nm ns e a g lo hi bd el hm.1.2.2 hm.1.2.1 b o m w hb hx hmp hG hl
  · rw [st_may_3] at hm; simp only [Bool.and_eq_true] at hm
    exact first_3 nm ns e a g lo hi bd el hm.1.1 b o m w hb hx hmp hG hl
  · rw [st_may_4] at hm; simp only [Bool.and_eq_true] at hm
    exact first_4 nm ns e a g lo hi bd el hm.1.1 b o m w hb hx hmp hG hl
  · exact first_5 nm ns e a g lo hi bd el b o m w hb hx hmp hG hl
  · rw [st_may_6] at hm; simp only [Bool.and_eq_true] at hm
    exact first_6 nm ns e a g lo hi bd el hm.1.2.2 b o m w hb hx hmp hG hl
end Go.Proofs.YtlhbledakddbbaaGreatDoor
