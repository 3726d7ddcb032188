/- Leakage as a list of what is seen: the closure. -/
import Derived.Test.YtdigkdfkaikagaaL7
import Derived.Deep.RegionLaw
namespace Go.Proofs.Ytdigkdfkaikagaa
open Go.RowKit

/-- what is seen: a jump, and whether it was taken; or an address -/
inductive Sn where
  | jump (t : Bool)
  | addr (x : Int)
def Sn.cells : Sn → List Value
  | .jump t => [.bool true, .bool t, .int .u64 0]
  | .addr x => [.bool false, .bool false, .int .u64 x]
def snCells (l : List Sn) : List Value := l.flatMap Sn.cells
theorem snCells_app (a b : List Sn) : snCells (a ++ b) = snCells a ++ snCells b := by simp [snCells]

def seenOf (k : Int) (is : List Int) (t : Bool) : List Sn := is.map .addr ++ (if k = 2 then [.jump (!t)] else [])
mutual
def Lf.flat : Lf → List Sn
  | .nil => []
  | .node k is t s r => seenOf k is t ++ (s.flat ++ r.flat)
def Ls.flat : Ls → List Sn
  | .nil => []
  | .sub l r => l.flat ++ r.flat
end

/-- the captured variable c holds a slice of the call's own, with these -/
def Grows (c : Nat) (w wr : World) (xs : List Sn) : Prop :=
  Below c w wr ∧ ∃ v, wr.cell? ⟨c, 0, none⟩ = some v ∧ wr.frozen? ⟨c, 0, none⟩ = false ∧ wr.ownsRow (c + 1) 48 3 v xs.length (snCells xs) ∧ c + 1 ≤ wr.heap.size

theorem app_cell {c : Nat} {wr w1 : World} {v : Value} {e : TypeId} {sz n : Nat} {xs : List Value} {o : Obj} (hc : wr.cell? ⟨c, 0, none⟩ = some v) (hz : wr.frozen? ⟨c, 0, none⟩ = false)
    (hown : wr.ownsRow (c + 1) e sz v n xs) (hsz : c + 1 ≤ wr.heap.size) (hg : (wr.alloc o).grownBy w1 v.ownBlock) : w1.cell? ⟨c, 0, none⟩ = some v ∧ w1.frozen? ⟨c, 0, none⟩ = false := by
  have hne : some c ≠ v.ownBlock := fun e => by have := hown.lt c e.symm; omega
  have hlt : c < (wr.alloc o).heap.size := by simp; omega
  refine ⟨hg.cell (by rw [World.cell?_alloc_past _ _ _ (by omega)]; exact hc) hne, ?_⟩
  have hb := hg.block c hlt hne
  rw [Below.heap_alloc _ _ _ (by omega)] at hb
  unfold World.frozen? at hz ⊢
  simp only at hb hz ⊢
  rw [hb]; exact hz
theorem grows_app {c : Nat} {w wr w1 : World} {v v' : Value} {xs ys zs : List Sn} {o : Obj} (hbel : Below c w wr) (hc : wr.cell? ⟨c, 0, none⟩ = some v) (hz : wr.frozen? ⟨c, 0, none⟩ = false)
    (hown : wr.ownsRow (c + 1) 48 3 v xs.length (snCells xs)) (hsz : c + 1 ≤ wr.heap.size)
    (hown' : w1.ownsRow (c + 1) 48 3 v' (xs.length + ys.length) (snCells xs ++ snCells ys)) (hg : (wr.alloc o).grownBy w1 v.ownBlock) (he : zs = xs ++ ys) :
    Grows c w (w1.setCell ⟨c, 0, none⟩ v') zs := by
  have hsz1 := hg.size
  obtain ⟨hcell, hfr⟩ := app_cell hc hz hown hsz hg
  refine ⟨(((hbel.alloc (by omega) o).grown hg (by simp; omega) fun k hk => ?_).setCell (Nat.le_refl _) v'), v', ?_, ?_, ?_, ?_⟩
  · have := hown.lt k hk; omega
  · exact World.cell?_setCell_same _ _ _ hcell
  · simpa using hfr
  · rw [he, List.length_append, snCells_app]; exact ownsRow_setCell_below hown' (Nat.lt_succ_self _) v'
  · simp at hsz1 ⊢; omega

theorem step_append_own {P : Program} {ops : Array Oper} {o : Oper} {a : Act} {w : World} {K : Act → World → Prop} {Q : Exit → Act → World → Prop} {E : Prop}
    (hgd : o.guard = none) (s x : Operand) (t : TypeId)
    (ho : o.op = .call { callee := .builtin .append, args := #[s, x], argTypes := #[t, t] })
    (base : Nat) (e : TypeId) (i : TypeInfo) (z : Value) (size bytes : Nat) (ht : P.underlying t = some (.slice e)) (hi : P.info? e = some i) (hz : i.zero = some z)
    (hsize : i.size = size) (hby : i.bytes = bytes) (hzs : z.cells.size = size) (hsz : 0 < size)
    (v : Value) (n : Nat) (xs : List Value) (hs : a.eval s = v) (hown : w.ownsRow base e size v n xs)
    (ad : Addr) (m c : Nat) (news : List Value) (hx : a.eval x = .slice (some ad) m c) (hl : news.length = m * size) (hnews : ∀ j u, news[j]? = some u → w.cell? (ad.add j) = some u) (h1 : ∀ u ∈ news, u.oneCell' = true)
    (h63 : n + m ≤ maxLen) (hbytes : (n + m) * bytes ≤ 140737488355328) (hbase : base ≤ w.heap.size)
    (h : ∀ v' w', w'.ownsRow base e size v' (n + m) (xs ++ news) → w.grownBy w' v.ownBlock → K (a.put o.dst v') w') :
    if Region.wanted o (yielded ops a.tmps) = true then Oper.wp P o a w K Q else E := by
  have hw : Region.wanted o (yielded ops a.tmps) = true := by simp [Region.wanted, hgd]
  rw [if_pos hw]
  exact wp_append_own w s x t ho base e i z size bytes ht hi hz hsize hby hzs hsz v n xs hs hown ad m c news hx hl hnews h1 h63 hbytes hbase fun v' w' h2 h3 _ => h v' w' h2 h3
theorem info_seen : (Try.prog.info? 48).map (fun i => (i.zero, i.size, i.bytes)) = some (some (.agg #[.bool false, .bool false, .int .u64 0]), 3, 16) := by kernel_rfl

set_option maxHeartbeats 1600000 in
theorem flat1_any (b o c : Nat) (deep : Int) (k : Int) (is : List Int) (t : Bool) (q : Option Addr) (cp N : Nat) (w : World) (xs : List Sn) (hNc : N ≤ c) (hb : b < N)
    (h0 : w.cell? ⟨b, o, none⟩ = some (.int .i64 k)) (h1 : w.cell? ⟨b, o + 1, none⟩ = some (.slice q is.length cp)) (s1 : Sl N q is.length (Ints w is))
    (h2 : w.cell? ⟨b, o + 2, none⟩ = some (.bool t)) (hg : Grows c w w xs) (hn : xs.length + is.length + 1 ≤ 4000000) :
    Calls Try.prog 48 #[.pointer (some ⟨b, o, none⟩), .int .i64 deep, .pointer (some ⟨c, 0, none⟩)] w fun e w' => e = .returned (.bool true) ∧ Grows c w w' (xs ++ seenOf k is t) := by
  obtain ⟨i0, hi, hz0, hz1, hz2⟩ := info_parts info_seen
  have S1 := Lib.hid s1
  have hm := s1.1
  clear s1
  go_enter Try.func48, Try.ntmps48
  go_wp2_with fail
  go_loopw [13] (fun i wr => ∃ (ds rs : List Int), i = .int .i64 ds.length ∧ ds.length + rs.length = is.length ∧ Hid (is = ds ++ rs) ∧ Grows c w wr (xs ++ ds.map .addr))
    (fun i _ => is.length - (intOf i).toNat)
  case atStart => exact ⟨[], is, rfl, by simp, Lib.hid rfl, by simpa using hg⟩
  case round =>
    obtain ⟨ds, rs, rfl, hj, hE, hbel, v, hc, hz, hown, hsz⟩ := hrel
    have f0 := (hbel.cell (show b < c by omega)).trans h0
    have f2 := (hbel.cell (show b < c by omega)).trans h2
    have hln : (xs ++ ds.map Sn.addr).length + rs.length + 1 ≤ 4000000 := by simp; omega
    have HL := Lib.hid hln
    clear hln hg hn
    cases rs with
    | nil =>
      simp only [List.length_nil] at hj
      have hge : ¬ ds.length < is.length := by omega
      clear h0 h1 h2
      cases hk : k == 2 with
      | false =>
        have HG := Lib.hid (show Grows c w wr (xs ++ seenOf k is t) by
          rw [hE.out]; simp only [seenOf, List.append_nil, if_neg (beq_eq_false_iff_ne.1 hk)]; exact ⟨hbel, v, hc, hz, hown, hsz⟩)
        clear hbel hown hc hz hsz
        go_wp2_with fail
        go_ret
        exact ⟨rfl, HG.out⟩
      | true =>
        go_wp2_with fail
        have D1 : ∀ (j : Nat) (u : Value), (Sn.cells (.jump (!t)))[j]? = some u → (wr.drew.alloc (Obj.cells #[.bool true, .bool (!t), .int .u64 0] 48)).cell? ((⟨wr.heap.size, 0, none⟩ : Addr).add j) = some u := by
          intro j u hj
          match j, hj with
          | 0, hj => simp [Sn.cells] at hj; subst hj; simp [go_sem, Addr.add]
          | 1, hj => simp [Sn.cells] at hj; subst hj; simp [go_sem, Addr.add]
          | 2, hj => simp [Sn.cells] at hj; subst hj; simp [go_sem, Addr.add]
        have D2 : ∀ u ∈ Sn.cells (.jump (!t)), u.oneCell' = true := by intro u hu; simp [Sn.cells] at hu; rcases hu with rfl | rfl | rfl <;> rfl
        have D3 : (xs ++ ds.map Sn.addr).length + 1 ≤ maxLen := by have := HL.out; unfold maxLen; omega
        have D4 : ((xs ++ ds.map Sn.addr).length + 1) * 16 ≤ 140737488355328 := by have := HL.out; omega
        have D5 : c + 1 ≤ (wr.drew.alloc (Obj.cells #[.bool true, .bool (!t), .int .u64 0] 48)).heap.size := by simp; omega
        have D := Lib.hid (And.intro D1 (And.intro D2 (And.intro D3 (And.intro D4 D5))))
        clear D1 D2 D3 D4 D5
        have GA := Lib.hid (fun (w1 : World) (v' : Value) (hown' : w1.ownsRow (c + 1) 48 3 v' ((xs ++ ds.map Sn.addr).length + 1) (snCells (xs ++ ds.map Sn.addr) ++ Sn.cells (.jump (!t)))) (hgrow : (wr.drew.alloc (Obj.cells #[.bool true, .bool (!t), .int .u64 0] 48)).grownBy w1 v.ownBlock) =>
          grows_app (wr := wr.drew) (ys := [.jump (!t)]) (zs := xs ++ seenOf k is t) hbel.drew hc hz hown.drew hsz (by simpa [snCells] using hown') hgrow
          (by have hE' := hE.out; simp only [List.append_nil] at hE'; subst hE'; simp [seenOf, eq_of_beq hk]))
        have hca : (wr.alloc (Obj.cells #[.bool true, .bool (!t), .int .u64 0] 48)).cell? ⟨c, 0, none⟩ = some v := (World.cell?_alloc_past _ _ _ (by show c < wr.heap.size; omega)).trans hc
        go_region_law (refine step_append_own rfl (.tmp 28) (.tmp 35) 39 rfl (c + 1) 48 i0 (.agg #[.bool false, .bool false, .int .u64 0]) 3 16 Try.underlying39 hi hz0 hz1 hz2 rfl (by decide) v _ _ (by simp [Act.eval]) (hown.drew.alloc _) ⟨wr.heap.size, 0, none⟩ 1 1 (Sn.cells (.jump (!t))) (by simp [Act.eval]) rfl D.out.1 D.out.2.1 D.out.2.2.1 D.out.2.2.2.1 D.out.2.2.2.2 ?_; intro v' w1 hown' hgrow; obtain ⟨gg, cc, rfl⟩ := own_form hown' (by omega); obtain ⟨hc1, hz1'⟩ := app_cell (wr := wr.drew) hc hz hown.drew hsz hgrow; have HG := Lib.hid (GA.out _ _ hown' hgrow); clear hown' hgrow)
        all_goals go_wp2_with fail
        all_goals go_ret
        all_goals exact ⟨rfl, by have h := HG.out; rw [show (xs ++ ds.map Sn.addr).length = xs.length + ds.length by simp] at h; exact h⟩
    | cons y rs =>
      simp only [List.length_cons] at hj
      have hlt : ds.length < is.length := by omega
      rcases S1.out.2 with h30 | ⟨b1, o1, rfl, hb1, ha1⟩
      · omega
      rw [hE.out] at ha1
      have fy := (hbel.cell (show b1 < c by omega)).trans (Ints.drop _ _ _ _ ha1).1
      clear h0 h1 h2 ha1 S1
      go_wp2_with (at_builtin; refine wpList_append_own _ rfl _ _ 39 rfl (c + 1) 48 i0 (.agg #[.bool false, .bool false, .int .u64 0]) 3 16 Try.underlying39 hi hz0 hz1 hz2 rfl (by decide) _ _ _ rfl (hown.alloc _) ⟨wr.heap.size, 0, none⟩ 1 1 (Sn.cells (.addr y)) rfl rfl ?c1 ?c2 ?c3 ?c4 ?c5 ?_)
      case c1 => intro j u hj; match j, hj with
        | 0, hj => simp [Sn.cells] at hj; subst hj; simp [go_sem, Addr.add]
        | 1, hj => simp [Sn.cells] at hj; subst hj; simp [go_sem, Addr.add]
        | 2, hj => simp [Sn.cells] at hj; subst hj; simp [go_sem, Addr.add]
      case c2 => intro u hu; simp [Sn.cells] at hu; rcases hu with rfl | rfl <;> rfl
      case c3 => have := HL.out; unfold maxLen; omega
      case c4 => have := HL.out; omega
      case c5 => simp; omega
      intro v' w1 hown' hgrow _
      obtain ⟨gg, cc, rfl⟩ := own_form hown' (by omega)
      obtain ⟨hc1, hz1'⟩ := app_cell hc hz hown hsz hgrow
      have HG := Lib.hid (grows_app (ys := [.addr y]) hbel hc hz hown hsz (by simpa [snCells] using hown') hgrow rfl)
      clear hown' hgrow hown hc hz hbel hi hz0 hz1 hz2 f0 f2 fy hsz
      go_wp2_with fail
      go_roundw
      case rel => exact ⟨ds ++ [y], rs, by rw [List.length_append]; go_num, by simp; omega, Lib.hid (by rw [hE.out]; simp), by simpa using HG.out⟩
      case measure => simp [intOf]; omega
end Go.Proofs.Ytdigkdfkaikagaa
