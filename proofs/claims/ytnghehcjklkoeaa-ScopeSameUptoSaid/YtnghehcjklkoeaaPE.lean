/- PD, PE as one. -/
import Derived.Test.YtnghehcjklkoeaaPC
import Derived.StillTailTactics
import Derived.Deep.RegionHeld
import Derived.Deep.RegionHeld3
import Derived.WalkMore
import Derived.Deep.CutBlock
import Derived.Deep.CutRange
import Derived.Test.YtnghehcjklkoeaaQA
import Derived.Test.YtnghehcjklkoeaaK0
/- Texts are spoilt in some blocks alone: statements. -/
namespace Go.Proofs.Ytnghehcjklkoeaa
open Go.RowKit

theorem Sts.In.spo {w w' : World} {N : Nat} {l : Sts} {p : Option Addr} (h : l.In w N p) (hw : Spo w w') : ∃ y : Sts, (y.size = l.size ∧ y.len = l.len) ∧ y.In w' N p := by
  rcases h with ⟨hm, h0 | ⟨b, o, hp, hb, ha⟩⟩
  · exact ⟨l, ⟨rfl, rfl⟩, hm, .inl h0⟩
  · obtain ⟨y, hy, hB⟩ := Sts.At.spo hw l b o ha
    exact ⟨y, hy, by rw [hy.2]; exact hm, .inr ⟨b, o, hp, hb, hB⟩⟩
/-- two expressions of the call's own -/
theorem spe_two (S : Nat → Bool) (N : Nat) (w W : World) (e a : Ex) (pe pa : Option Addr) (ce ca : Nat) (hW : w.drew.alloc (.cells #[.int .i64 e.op, .int .u64 (e.word : Int), .string (str e.name), .slice pe e.args.len ce, .int .i64 a.op, .int .u64 (a.word : Int), .string (str a.name), .slice pa a.args.len ca] 42) = W)
    (he : e.Ok (cut S w) N pe) (ha : a.Ok (cut S w) N pa) (hN : N ≤ w.heap.size) (hF : Wr S N w) :
    Calls Try.prog 49 #[.slice (some ⟨w.heap.size, 0, none⟩) 2 2] W fun z w' => z = .returned (.tuple #[]) ∧ Spl S w w' := by
  have k0 : W.heap[w.heap.size]? = some (.cells #[.int .i64 e.op, .int .u64 (e.word : Int), .string (str e.name), .slice pe e.args.len ce, .int .i64 a.op, .int .u64 (a.word : Int), .string (str a.name), .slice pa a.args.len ca] 42 (0, 0)) := by rw [← hW]; exact heap_alloc_new w.drew _
  have hB : Below w.heap.size w W := by rw [← hW]; exact (Below.refl _ w).drew.alloc (Nat.le_refl _) _
  have hz : W.heap.size = w.heap.size + 1 := by rw [← hW]; simp
  obtain ⟨T, hT⟩ : ∃ T : Nat → Bool, T = fun k => S k || k == w.heap.size := ⟨_, rfl⟩
  have hTw : T w.heap.size = true := by rw [hT]; simp
  have hLe : Le (cut S w) (cut T W) := Le.cut2 fun b hb => ⟨by rw [hT]; simp [hb], fun o v hv => (hB.cell (p := ⟨b, o, none⟩) (Nat.lt_of_lt_of_le (hF b hb).1 hN)).trans hv⟩
  have hc : ∀ j v, (#[.int .i64 e.op, .int .u64 (e.word : Int), .string (str e.name), .slice pe e.args.len ce, .int .i64 a.op, .int .u64 (a.word : Int), .string (str a.name), .slice pa a.args.len ca] : Array Value)[j]? = some v → (cut T W).cell? ⟨w.heap.size, j, none⟩ = some v := fun j v h => by
    rw [cell_cut, if_pos hTw]; exact cell_blk k0 h
  have hM : N ≤ w.heap.size + 1 := Nat.le_succ_of_le hN
  have hl : (Exs.cons e (.cons a .nil)).In (cut T W) (w.heap.size + 1) (some ⟨w.heap.size, 0, none⟩) := by
    refine ⟨show 2 ≤ 140737488355328 by decide, .inr ⟨w.heap.size, 0, rfl, Nat.lt_succ_self _, ?_, ?_, trivial⟩⟩
    · have h0 := hc 0 _ rfl
      have h1 := hc 1 _ rfl
      have h2 := hc 2 _ rfl
      have h3 := hc 3 _ rfl
      have h4 := he.1.le hLe hM
      have h5 := he.2
      obtain ⟨op, wd, nm, ar⟩ := e
      exact ⟨⟨h0, h1, h2, h5⟩, ⟨pe, ce, h3, h4⟩⟩
    · have h0 := hc 4 _ rfl
      have h1 := hc 5 _ rfl
      have h2 := hc 6 _ rfl
      have h3 := hc 7 _ rfl
      have h4 := ha.1.le hLe hM
      have h5 := ha.2
      obtain ⟨op, wd, nm, ar⟩ := a
      exact ⟨⟨h0, h1, h2, h5⟩, ⟨pa, ca, h3, h4⟩⟩
  have hWr : Wr T (w.heap.size + 1) W := fun b hb => by
    rw [hT] at hb
    simp only [Bool.or_eq_true, beq_iff_eq] at hb
    rcases hb with hb | rfl
    · have h1 := hF b hb
      exact ⟨by omega, fun o => by rw [← hW, World.frozen?_alloc_past _ _ _ (show b < w.drew.heap.size from Nat.lt_of_lt_of_le h1.1 hN)]; exact h1.2 o⟩
    · exact ⟨Nat.lt_succ_self _, fun o => by rw [← hW]; exact World.frozen?_alloc_at _ _ _ _ rfl⟩
  refine (spe_to _ _ (Nat.lt_succ_self _) _ 2 _ T W hl (by omega) hWr).mono ?_
  rintro z w' ⟨rfl, h⟩
  refine ⟨rfl, Spl.mono (S := T) (((Spl.refl T w).drew.trans (by rw [← hW]; exact Spl.alloc T w.drew _ _)).trans h) fun k hk hs => ?_⟩
  rw [hT]
  simp [hs]; omega
def SpS (n : Nat) : Prop := ∀ l : Sts, l.size < n → ∀ (p : Option Addr) (c N : Nat) (S : Nat → Bool) (w : World), l.In (cut S w) N p → N ≤ w.heap.size → Wr S N w →
    Calls Try.prog 29 #[.slice p l.len c] w fun z w' => z = .returned (.tuple #[]) ∧ Spl S w w'
set_option maxRecDepth 100000 in
set_option maxHeartbeats 6400000 in
theorem sps_step (n : Nat) (ih : SpS n) : SpS (n + 1) := by
  intro l hsz p c N S w h hN hF
  have IH := Lib.hid ih
  have HF := Lib.hid hF
  have HNN := Lib.hid (And.intro hN hsz)
  obtain ⟨hm, hs⟩ := h
  obtain ⟨b, o, hp, hb, ha⟩ : ∃ b o, (l.len = 0 ∨ p = some ⟨b, o, none⟩) ∧ (b < N ∨ l.len = 0) ∧ l.At (cut S w) N b o := by
    rcases hs with h0 | ⟨b, o, hp, hb, ha⟩
    · exact ⟨0, 0, .inl h0, .inr h0, by cases l with | nil => trivial | cons => simp [Sts.len] at h0⟩
    · exact ⟨b, o, .inr hp, .inl hb, ha⟩
  clear ih hF hN hsz hs hb
  go_enter Try.func29, Try.ntmps29
  go_wp2_with fail
  go_loopw [2] (fun i wr => ∃ (k : Nat) (r : Sts), i = .int .i64 k ∧ k + r.len = l.len ∧ Hid (r.size ≤ l.size ∧ r.At (cut S wr) N b (o + k * 16)) ∧ Hid (Spl S w wr)) (fun i _ => l.len - (intOf i).toNat)
  case atStart => exact ⟨0, l, rfl, by omega, Lib.hid ⟨Nat.le_refl _, by rw [Nat.zero_mul]; exact ha⟩, Lib.hid (Spl.refl S w)⟩
  case round =>
    obtain ⟨k, r, rfl, hk, hr, hX⟩ := hrel
    obtain ⟨wp, rfl⟩ : ∃ wp : World, wp = wr := ⟨_, rfl⟩
    cases r with
    | nil =>
      simp only [Sts.len] at hk
      have hge : ¬ k < l.len := by omega
      go_wp2_with fail
      go_end0
      exact ⟨rfl, hX.out⟩
    | cons y r =>
      simp only [Sts.len] at hk
      have hlt : k < l.len := by omega
      obtain ⟨hrs, hy, hr'⟩ := hr.out
      rcases hp with h0 | rfl
      · omega
      have HR := Lib.hid (show r.At (cut S wp) N b (o + k * 16 + 16) ∧ r.size ≤ l.size from ⟨hr', by simp only [Sts.size] at hrs; omega⟩)
      have hNp : N ≤ wp.heap.size := Nat.le_trans HNN.out.1 hX.out.size
      have hFp : Wr S N wp := Wr.spl hX.out HNN.out.1 HF.out
      obtain ⟨s, cc, hok⟩ := hy.open
      have hsy : y.body.size < n ∧ y.els.size < n := by
        have := HNN.out.2
        obtain ⟨kd, nm, ns, e, a, g, lo, hi, bd, el⟩ := y
        simp only [Sts.size, St.size, St.body, St.els] at hrs ⊢
        omega
      obtain ⟨WW, hWW⟩ : ∃ WW, wp.drew.alloc (.cells #[.int .i64 y.e.op, .int .u64 (y.e.word : Int), .string (str y.e.name), .slice s.pe y.e.args.len s.ce, .int .i64 y.a.op, .int .u64 (y.a.word : Int), .string (str y.a.name), .slice s.pa y.a.args.len s.ca] 42) = WW := ⟨_, rfl⟩
      have HE := Lib.hid (spe_two S N wp WW y.e y.a s.pe s.pa s.ce s.ca hWW hok.2.1 hok.2.2.1 hNp hFp)
      have HG := Lib.hid (fun (W : World) (hW : Spl S wp W) => show Calls Try.prog 49 #[.slice s.pg y.args.len s.cg] W fun z w' => z = .returned (.tuple #[]) ∧ Spl S W w' from by
        obtain ⟨x, hx1, hx2⟩ := hok.2.2.2.1.spo (hW.spo.cut S)
        have := spe_to _ x (Nat.lt_succ_self _) s.pg s.cg N S W hx2 (Nat.le_trans hNp hW.size) (Wr.spl hW hNp hFp)
        rw [hx1.2] at this; exact this)
      have HBd := Lib.hid (fun (W : World) (hW : Spl S wp W) => show Calls Try.prog 29 #[.slice s.pb y.body.len s.cb] W fun z w' => z = .returned (.tuple #[]) ∧ Spl S W w' from by
        obtain ⟨x, hx1, hx2⟩ := hok.2.2.2.2.1.spo (hW.spo.cut S)
        have := IH.out x (by rw [hx1.1]; exact hsy.1) s.pb s.cb N S W hx2 (Nat.le_trans hNp hW.size) (Wr.spl hW hNp hFp)
        rw [hx1.2] at this; exact this)
      have HEl := Lib.hid (fun (W : World) (hW : Spl S wp W) => show Calls Try.prog 29 #[.slice s.pl y.els.len s.cl] W fun z w' => z = .returned (.tuple #[]) ∧ Spl S W w' from by
        obtain ⟨x, hx1, hx2⟩ := hok.2.2.2.2.2.1.spo (hW.spo.cut S)
        have := IH.out x (by rw [hx1.1]; exact hsy.2) s.pl s.cl N S W hx2 (Nat.le_trans hNp hW.size) (Wr.spl hW hNp hFp)
        rw [hx1.2] at this; exact this)
      have HC := Lib.hid (fun (W : World) (hW : Spl S wp W) => show W.cell? ⟨b, o + k * 16 + 2, none⟩ = some (.slice s.pn y.names.length s.cn) ∧ W.cell? ⟨b, o + k * 16 + 11, none⟩ = some (.slice s.pg y.args.len s.cg) ∧ W.cell? ⟨b, o + k * 16 + 14, none⟩ = some (.slice s.pb y.body.len s.cb) ∧ W.cell? ⟨b, o + k * 16 + 15, none⟩ = some (.slice s.pl y.els.len s.cl) ∧ ∃ t : List UInt8, W.cell? ⟨b, o + k * 16 + 1, none⟩ = some (.string (str t)) ∧ W.frozen? ⟨b, o + k * 16 + 1, none⟩ = false ∧ S b = true from by
        obtain ⟨t, ht⟩ := (hW.spo.cut S).str (cc 1 _ rfl)
        have h1 := cell_cut_some ht
        exact ⟨(cell_cut_some ((hW.spo.cut S).sl (cc 2 _ rfl))).2, (cell_cut_some ((hW.spo.cut S).sl (cc 11 _ rfl))).2, (cell_cut_some ((hW.spo.cut S).sl (cc 14 _ rfl))).2, (cell_cut_some ((hW.spo.cut S).sl (cc 15 _ rfl))).2, t, h1.2, (Wr.spl hW hNp hFp b h1.1).2 _, h1.1⟩)
      have HNm := Lib.hid (fun (W : World) (hW : Spl S wp W) (j : Nat) (hj : j < y.names.length) => show ∃ (b' o' : Nat) (t : List UInt8), s.pn = some ⟨b', o', none⟩ ∧ W.cell? ⟨b', o' + j, none⟩ = some (.string (str t)) ∧ W.frozen? ⟨b', o' + j, none⟩ = false ∧ S b' = true from by
        obtain ⟨m, hm1, hm2⟩ := hok.1.2.spo (B := StrAt (cut S W)) fun x b o => StrAt.spo (hW.spo.cut S) x b o
        rcases hm2.2 with h0 | ⟨b', o', hq, hb', hrow⟩
        · omega
        · have h1 := Row.get (i := j) (x := m[j]'(by omega)) hrow (List.getElem?_eq_getElem _)
          rw [Nat.mul_one] at h1
          have h2 := cell_cut_some h1
          exact ⟨b', o', _, hq, h2.2, (Wr.spl hW hNp hFp b' h2.1).2 _, h2.1⟩)
      have hmn : y.names.length ≤ 140737488355328 := hok.1.2.1
      have g3 : wp.cell? ⟨b, o + k * 16 + 3, none⟩ = some (.int .i64 y.e.op) := (cell_cut_some (cc 3 _ rfl)).2
      have g4 : wp.cell? ⟨b, o + k * 16 + 3 + 1, none⟩ = some (.int .u64 (y.e.word : Int)) := (cell_cut_some (cc 4 _ rfl)).2
      have g5 : wp.cell? ⟨b, o + k * 16 + 3 + 2, none⟩ = some (.string (str y.e.name)) := (cell_cut_some (cc 5 _ rfl)).2
      have g6 : wp.cell? ⟨b, o + k * 16 + 3 + 3, none⟩ = some (.slice s.pe y.e.args.len s.ce) := (cell_cut_some (cc 6 _ rfl)).2
      have g7 : wp.cell? ⟨b, o + k * 16 + 7, none⟩ = some (.int .i64 y.a.op) := (cell_cut_some (cc 7 _ rfl)).2
      have g8 : wp.cell? ⟨b, o + k * 16 + 7 + 1, none⟩ = some (.int .u64 (y.a.word : Int)) := (cell_cut_some (cc 8 _ rfl)).2
      have g9 : wp.cell? ⟨b, o + k * 16 + 7 + 2, none⟩ = some (.string (str y.a.name)) := (cell_cut_some (cc 9 _ rfl)).2
      have g10 : wp.cell? ⟨b, o + k * 16 + 7 + 3, none⟩ = some (.slice s.pa y.a.args.len s.ca) := (cell_cut_some (cc 10 _ rfl)).2
      clear hr hy hr' hok cc hsy hNp hFp hrs
      generalize y.names.length = nn at HC HNm hmn
      generalize y.args.len = ng at HG HC
      generalize y.body.len = nb at HBd HC
      generalize y.els.len = nl at HEl HC
      go_wp2_with fail
      go_still_tail 10, (by kernel_rfl)
      change wpList _ _ _ _ _ (World.drew _)
      go_wp2_with fail
      refine HE.out.mono ?_
      rintro z w1 ⟨rfl, hX1⟩
      have HX1 := Lib.hid hX1
      have c11 := (HC.out w1 hX1).2.1
      clear hX1 g3 g4 g5 g6 g7 g8 g9 g10 HE hWW
      have HC2 := Lib.hid (HG.out w1 HX1.out)
      go_wp2_with fail
      refine HC2.out.mono ?_
      rintro z w2 ⟨rfl, hX2⟩
      have HX2 := Lib.hid (HX1.out.trans hX2)
      clear hX2 c11 HC2 HG
      go_wp2_with fail
      go_loopw [3] (fun i wr => ∃ j : Nat, i = .int .i64 j ∧ j ≤ nn ∧ Hid (Spl S wp wr)) (fun i _ => nn - (intOf i).toNat)
      case atStart => exact ⟨0, rfl, Nat.zero_le _, HX2⟩
      case round =>
        obtain ⟨j, rfl, hj, hX3⟩ := hrel
        obtain ⟨w3, rfl⟩ : ∃ w3 : World, w3 = wr := ⟨_, rfl⟩
        by_cases hjn : j < nn
        · obtain ⟨b', o', t', hq, hc, hf, hS⟩ := HNm.out w3 hX3.out j hjn
          have c2 := (HC.out w3 hX3.out).1
          rw [hq] at c2
          have HX4 := Lib.hid (hX3.out.trans (Spl.put [115, 112, 111, 105, 108, 116] hS hc))
          clear hq hS
          go_wp2_with fail
          go_roundw
          case rel => exact ⟨j + 1, by go_num, hjn, HX4⟩
          case measure => simp [intOf]; omega
        · have c2 := (HC.out w3 hX3.out).1
          have c14 := (HC.out w3 hX3.out).2.2.1
          have HC3 := Lib.hid (HBd.out w3 hX3.out)
          go_wp2_with fail
          refine HC3.out.mono ?_
          rintro z w4 ⟨rfl, hX4⟩
          have HX4 := Lib.hid (hX3.out.trans hX4)
          clear hX4 c2 c14 HC3
          have c15 := (HC.out w4 HX4.out).2.2.2.1
          have HC4 := Lib.hid (HEl.out w4 HX4.out)
          go_wp2_with fail
          refine HC4.out.mono ?_
          rintro z w5 ⟨rfl, hX5⟩
          have HX5 := Lib.hid (HX4.out.trans hX5)
          clear hX5 c15 HC4
          obtain ⟨t, c1, f1, hSb⟩ := (HC.out w5 HX5.out).2.2.2.2
          have HX6 := Lib.hid (HX5.out.trans (Spl.put [115, 112, 111, 105, 108, 116] hSb c1))
          have HR2 := Lib.hid (Sts.At.spo (HX6.out.spo.cut S) _ _ _ HR.out.1)
          clear hSb
          go_wp2_with fail
          obtain ⟨x, ⟨hx1, hx2⟩, hx3⟩ := HR2.out
          have hxs : x.size ≤ l.size := by rw [hx1]; exact HR.out.2
          go_roundw
          case rel => exact ⟨k + 1, x, by go_num, by omega, Lib.hid ⟨hxs, by rw [show o + (k + 1) * 16 = o + k * 16 + 16 by omega]; exact hx3⟩, Lib.hid (hX.out.trans HX6.out)⟩
          case measure => simp [intOf]; omega
theorem sps_to : ∀ n, SpS n
  | 0 => fun _ h => absurd h (Nat.not_lt_zero _)
  | n + 1 => sps_step n (sps_to n)
end Go.Proofs.Ytnghehcjklkoeaa
/- A list in new memory: its cells, as they were. -/
namespace Go.Proofs.Ytnghehcjklkoeaa
open Go.RowKit

theorem finfoVr : (Try.prog.info? 52).map (fun i => (i.zero, i.size, i.bytes)) = some (some (.agg #[.string ⟨#[]⟩, .int .i64 0, .int .i64 0, .bool false]), 4, 40) := by kernel_rfl
set_option maxRecDepth 100000 in
theorem freshVr_any (p : Option Addr) (m c : Nat) (news : List Value) (w : World) (hsrc : Src w 4 p m news) (h1 : ∀ u ∈ news, u.oneCell' = true) (hm : m ≤ 1048576) :
    Calls Try.prog 25 #[.slice p m c] w fun z w' => ∃ v, z = .returned v ∧ w'.ownsRow w.heap.size 52 4 v m news ∧ Below w.heap.size w w' := by
  obtain ⟨i0, hi, hz0, hz1, hz2⟩ := info_parts finfoVr
  have hO : w.ownsRow w.heap.size 52 4 (.slice none 0 0) 0 [] := ⟨by simp, .inl ⟨rfl, rfl⟩⟩
  have HO := Lib.hid hO
  have HS := Lib.hid hsrc
  have H1 := Lib.hid h1
  clear hO hsrc h1
  go_enter Try.func25, Try.ntmps25
  go_wp2_with (at_builtin; refine wpList_append_src rfl _ _ 53 rfl w.heap.size 52 i0 _ 4 40 Try.underlying53 hi hz0 hz1 hz2 rfl (by decide) _ 0 [] rfl HO.out _ _ _ news rfl HS.out H1.out (by unfold maxLen; omega) (by omega) (Nat.le_refl _) ?_; intro v' w2 hown hgrow)
  go_ret
  exact ⟨v', rfl, by simpa using hown, below_grown (Below.refl _ w) hgrow (Nat.le_refl _) HO.out⟩
theorem finfoRg : (Try.prog.info? 58).map (fun i => (i.zero, i.size, i.bytes)) = some (some (.agg #[.string ⟨#[]⟩, .int .i64 0, .int .i64 0, .bool false]), 4, 40) := by kernel_rfl
set_option maxRecDepth 100000 in
theorem freshRg_any (p : Option Addr) (m c : Nat) (news : List Value) (w : World) (hsrc : Src w 4 p m news) (h1 : ∀ u ∈ news, u.oneCell' = true) (hm : m ≤ 1048576) :
    Calls Try.prog 22 #[.slice p m c] w fun z w' => ∃ v, z = .returned v ∧ w'.ownsRow w.heap.size 58 4 v m news ∧ Below w.heap.size w w' := by
  obtain ⟨i0, hi, hz0, hz1, hz2⟩ := info_parts finfoRg
  have hO : w.ownsRow w.heap.size 58 4 (.slice none 0 0) 0 [] := ⟨by simp, .inl ⟨rfl, rfl⟩⟩
  have HO := Lib.hid hO
  have HS := Lib.hid hsrc
  have H1 := Lib.hid h1
  clear hO hsrc h1
  go_enter Try.func22, Try.ntmps22
  go_wp2_with (at_builtin; refine wpList_append_src rfl _ _ 22 rfl w.heap.size 58 i0 _ 4 40 Try.underlying22 hi hz0 hz1 hz2 rfl (by decide) _ 0 [] rfl HO.out _ _ _ news rfl HS.out H1.out (by unfold maxLen; omega) (by omega) (Nat.le_refl _) ?_; intro v' w2 hown hgrow)
  go_ret
  exact ⟨v', rfl, by simpa using hown, below_grown (Below.refl _ w) hgrow (Nat.le_refl _) HO.out⟩
theorem finfoTx : (Try.prog.info? 9).map (fun i => (i.zero, i.size, i.bytes)) = some (some (.string ⟨#[]⟩), 1, 16) := by kernel_rfl
set_option maxRecDepth 100000 in
theorem freshTx_any (p : Option Addr) (m c : Nat) (news : List Value) (w : World) (hsrc : Src w 1 p m news) (h1 : ∀ u ∈ news, u.oneCell' = true) (hm : m ≤ 1048576) :
    Calls Try.prog 26 #[.slice p m c] w fun z w' => ∃ v, z = .returned v ∧ w'.ownsRow w.heap.size 9 1 v m news ∧ Below w.heap.size w w' := by
  obtain ⟨i0, hi, hz0, hz1, hz2⟩ := info_parts finfoTx
  have hO : w.ownsRow w.heap.size 9 1 (.slice none 0 0) 0 [] := ⟨by simp, .inl ⟨rfl, rfl⟩⟩
  have HO := Lib.hid hO
  have HS := Lib.hid hsrc
  have H1 := Lib.hid h1
  clear hO hsrc h1
  go_enter Try.func26, Try.ntmps26
  go_wp2_with (at_builtin; refine wpList_append_src rfl _ _ 46 rfl w.heap.size 9 i0 _ 1 16 Try.underlying46 hi hz0 hz1 hz2 rfl (by decide) _ 0 [] rfl HO.out _ _ _ news rfl HS.out H1.out (by unfold maxLen; omega) (by omega) (Nat.le_refl _) ?_; intro v' w2 hown hgrow)
  go_ret
  exact ⟨v', rfl, by simpa using hown, below_grown (Below.refl _ w) hgrow (Nat.le_refl _) HO.out⟩
theorem finfoEx : (Try.prog.info? 42).map (fun i => (i.zero, i.size, i.bytes)) = some (some (.agg #[.int .i64 0, .int .u64 0, .string ⟨#[]⟩, .slice none 0 0]), 4, 56) := by kernel_rfl
set_option maxRecDepth 100000 in
theorem freshEx_any (p : Option Addr) (m c : Nat) (news : List Value) (w : World) (hsrc : Src w 4 p m news) (h1 : ∀ u ∈ news, u.oneCell' = true) (hm : m ≤ 1048576) :
    Calls Try.prog 67 #[.slice p m c] w fun z w' => ∃ v, z = .returned v ∧ w'.ownsRow w.heap.size 42 4 v m news ∧ Below w.heap.size w w' := by
  obtain ⟨i0, hi, hz0, hz1, hz2⟩ := info_parts finfoEx
  have hO : w.ownsRow w.heap.size 42 4 (.slice none 0 0) 0 [] := ⟨by simp, .inl ⟨rfl, rfl⟩⟩
  have HO := Lib.hid hO
  have HS := Lib.hid hsrc
  have H1 := Lib.hid h1
  clear hO hsrc h1
  go_enter Try.func67, Try.ntmps67
  go_wp2_with (at_builtin; refine wpList_append_src rfl _ _ 40 rfl w.heap.size 42 i0 _ 4 56 Try.underlying40 hi hz0 hz1 hz2 rfl (by decide) _ 0 [] rfl HO.out _ _ _ news rfl HS.out H1.out (by unfold maxLen; omega) (by omega) (Nat.le_refl _) ?_; intro v' w2 hown hgrow)
  go_ret
  exact ⟨v', rfl, by simpa using hown, below_grown (Below.refl _ w) hgrow (Nat.le_refl _) HO.out⟩
theorem finfoFn : (Try.prog.info? 55).map (fun i => (i.zero, i.size, i.bytes)) = some (some (.agg #[.string ⟨#[]⟩, .slice none 0 0, .slice none 0 0, .slice none 0 0, .slice none 0 0]), 5, 112) := by kernel_rfl
set_option maxRecDepth 100000 in
theorem freshFn_any (p : Option Addr) (m c : Nat) (news : List Value) (w : World) (hsrc : Src w 5 p m news) (h1 : ∀ u ∈ news, u.oneCell' = true) (hm : m ≤ 1048576) :
    Calls Try.prog 45 #[.slice p m c] w fun z w' => ∃ v, z = .returned v ∧ w'.ownsRow w.heap.size 55 5 v m news ∧ Below w.heap.size w w' := by
  obtain ⟨i0, hi, hz0, hz1, hz2⟩ := info_parts finfoFn
  have hO : w.ownsRow w.heap.size 55 5 (.slice none 0 0) 0 [] := ⟨by simp, .inl ⟨rfl, rfl⟩⟩
  have HO := Lib.hid hO
  have HS := Lib.hid hsrc
  have H1 := Lib.hid h1
  clear hO hsrc h1
  go_enter Try.func45, Try.ntmps45
  go_wp2_with (at_builtin; refine wpList_append_src rfl _ _ 23 rfl w.heap.size 55 i0 _ 5 112 Try.underlying23 hi hz0 hz1 hz2 rfl (by decide) _ 0 [] rfl HO.out _ _ _ news rfl HS.out H1.out (by unfold maxLen; omega) (by omega) (Nat.le_refl _) ?_; intro v' w2 hown hgrow)
  go_ret
  exact ⟨v', rfl, by simpa using hown, below_grown (Below.refl _ w) hgrow (Nat.le_refl _) HO.out⟩
theorem finfoSt : (Try.prog.info? 49).map (fun i => (i.zero, i.size, i.bytes)) = some (some (.agg #[.int .i64 0, .string ⟨#[]⟩, .slice none 0 0, .int .i64 0, .int .u64 0, .string ⟨#[]⟩, .slice none 0 0, .int .i64 0, .int .u64 0, .string ⟨#[]⟩, .slice none 0 0, .slice none 0 0, .int .u64 0, .int .u64 0, .slice none 0 0, .slice none 0 0]), 16, 248) := by kernel_rfl
set_option maxRecDepth 100000 in
theorem freshSt_any (p : Option Addr) (m c : Nat) (news : List Value) (w : World) (hsrc : Src w 16 p m news) (h1 : ∀ u ∈ news, u.oneCell' = true) (hm : m ≤ 1048576) :
    Calls Try.prog 46 #[.slice p m c] w fun z w' => ∃ v, z = .returned v ∧ w'.ownsRow w.heap.size 49 16 v m news ∧ Below w.heap.size w w' := by
  obtain ⟨i0, hi, hz0, hz1, hz2⟩ := info_parts finfoSt
  have hO : w.ownsRow w.heap.size 49 16 (.slice none 0 0) 0 [] := ⟨by simp, .inl ⟨rfl, rfl⟩⟩
  have HO := Lib.hid hO
  have HS := Lib.hid hsrc
  have H1 := Lib.hid h1
  clear hO hsrc h1
  go_enter Try.func46, Try.ntmps46
  go_wp2_with (at_builtin; refine wpList_append_src rfl _ _ 47 rfl w.heap.size 49 i0 _ 16 248 Try.underlying47 hi hz0 hz1 hz2 rfl (by decide) _ 0 [] rfl HO.out _ _ _ news rfl HS.out H1.out (by unfold maxLen; omega) (by omega) (Nat.le_refl _) ?_; intro v' w2 hown hgrow)
  go_ret
  exact ⟨v', rfl, by simpa using hown, below_grown (Below.refl _ w) hgrow (Nat.le_refl _) HO.out⟩
end Go.Proofs.Ytnghehcjklkoeaa
