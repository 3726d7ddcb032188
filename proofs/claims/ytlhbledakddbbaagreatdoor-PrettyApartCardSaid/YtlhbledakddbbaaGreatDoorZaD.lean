/- G2, H1, H3, V0, I1, I2, G3, J1 as one. -/
import Derived.Laws.Cover1
import Derived.Laws.CopyRow
import Derived.Test.YtlhbledakddbbaaGreatDoorZaC
/- The document's Deep. -/
namespace Go.Proofs.YtlhbledakddbbaaGreatDoor
open Go.RowKit

def Ex.dp (x : Ex) : Nat := if x.none then 0 else x.depth
mutual
def St.wt : St → Nat
  | .mk _ _ _ e a g _ _ bd el => 1 + e.size + a.size + g.size + bd.wt + el.wt
def Sts.wt : Sts → Nat
  | .nil => 0
  | .cons x r => x.wt + r.wt
end
mutual
def St.deep : St → Nat
  | .mk _ _ _ e a g _ _ bd el => max (max (max (max bd.deep el.deep) g.deepest) e.dp) a.dp + 1
def Sts.deep : Sts → Nat
  | .nil => 0
  | .cons x r => max x.deep r.deep
end
theorem Ex.dp_le (x : Ex) : x.dp ≤ x.size := by
  unfold Ex.dp
  have := Ex.depth_le x
  split <;> omega
mutual
theorem St.deep_le : ∀ x : St, x.deep ≤ x.wt
  | .mk _ _ _ e a g _ _ bd el => by
    have h1 := Sts.deep_le bd
    have h2 := Sts.deep_le el
    have h3 := Exs.deepest_le g
    have h4 := Ex.dp_le e
    have h5 := Ex.dp_le a
    simp only [St.deep, St.wt]
    omega
theorem Sts.deep_le : ∀ l : Sts, l.deep ≤ l.wt
  | .nil => by simp [Sts.deep]
  | .cons x r => by
    have h1 := St.deep_le x
    have h2 := Sts.deep_le r
    simp only [Sts.deep, Sts.wt]
    omega
end
def RDS (n : Nat) : Prop := ∀ l : Sts, l.size < n → l.wt ≤ 1000000 → ∀ (p : Option Addr) (c N : Nat) (w : World), l.In w N p → N ≤ w.heap.size →
    Calls Tryz.prog 134 #[.slice p l.len c] w fun e w' => e = .returned (.int .i64 (l.deep : Nat)) ∧ Below w.heap.size w w'
set_option maxRecDepth 100000 in
set_option maxHeartbeats 12800000 in
theorem rds_step (n : Nat) (ih : RDS n) : RDS (n + 1) := by
  intro l hsz hM p cl N w h1 hN
  have S1 := Lib.hid h1
  have IH := Lib.hid ih
  have hm1 := h1.1
  have HNN := Lib.hid hN
  have hls : l.size ≤ n := by omega
  clear h1 ih hN hsz
  go_enter Tryz.func134, Tryz.ntmps134
  go_wp2_with fail
  go_loopw [3, 4] (fun t i wr => ∃ (k v : Nat) (r : Sts), t = .int .i64 v ∧ i = .int .i64 k ∧ k + r.len = l.len ∧ r.size ≤ n ∧ Hid (∀ b o, p = some ⟨b, o, none⟩ → l.At w N b o → r.At w N b (o + k * 16)) ∧ v ≤ 1000001 ∧ r.wt ≤ 1000000 ∧ Hid (l.deep = max v r.deep) ∧ Hid (Below w.heap.size w wr)) (fun _ i _ => l.len - (intOf i).toNat)
  case atStart => exact ⟨0, 0, l, rfl, rfl, by omega, hls, Lib.hid fun b o _ h => by rw [Nat.zero_mul]; exact h, by omega, hM, Lib.hid (by omega), Lib.hid (Below.refl _ _)⟩
  case round =>
    obtain ⟨k, v, r, rfl, rfl, hk, hrs, hat, hv, hwt, hE, hB⟩ := hrel
    cases r with
    | nil =>
      simp only [Sts.len] at hk
      have hge : ¬ k < l.len := by omega
      go_wp2_with fail
      go_ret
      exact ⟨ret_int (by rw [hE.out]; simp [Sts.deep]), hB.out⟩
    | cons x r =>
      simp only [Sts.len] at hk
      simp only [Sts.size] at hrs
      simp only [Sts.wt] at hwt
      have hlt : k < l.len := by omega
      obtain ⟨wo, rfl⟩ : ∃ wo : World, wo = wr := ⟨_, rfl⟩
      · rcases S1.out.2 with h30 | ⟨b, o, rfl, hb, ha⟩
        · omega
        obtain ⟨hx, hr⟩ := hat.out b o rfl ha
        have HR := Lib.hid hr
        obtain ⟨s, c1, ok1⟩ := St.At.openP (St.At.later (hB.out.mono HNN.out) (Nat.le_trans HNN.out hB.out.size) x b _ hb hx)
        have hbl : b < wo.heap.size := by have := hB.out.size; have := HNN.out; omega
        obtain ⟨A1, hA1⟩ : ∃ A1, x.cells s = A1 := ⟨_, rfl⟩
        have HZ1 := Lib.hid (show A1.size = 16 by rw [← hA1]; rfl)
        have HO1 := Lib.hid (show A1.all (·.oneCell') = true by rw [← hA1]; exact oneSt _ _)
        have F1 := Lib.hid (show wo.rangeAt b (o + k * 16) A1.toList from fun j z hz => c1 j z (by rw [hA1, ← Array.getElem?_toList]; exact hz))
        have HI1 := Lib.hid (infoSt.trans (by rw [HZ1.out]) : (Tryz.prog.info? 54).map (·.size) = some A1.size)
        obtain ⟨W1, hW1⟩ : ∃ W1, wo.alloc (Obj.cells A1 54) = W1 := ⟨_, rfl⟩
        have HW1 := Lib.hid (show Below w.heap.size w W1 by rw [← hW1]; exact hB.out.trans (((Below.refl _ wo).alloc (Nat.le_refl _) _).mono hB.out.size))
        have HWr := Lib.hid (show Below wo.heap.size wo W1 by rw [← hW1]; exact (Below.refl _ wo).alloc (Nat.le_refl _) _)
        have hws : wo.heap.size < W1.heap.size := by rw [← hW1]; simp
        have HXA := Lib.hid (fun w1 hb => cells_later (w0 := W1) (w1 := w1) (b := wo.heap.size) (A := A1) (t := 54) (by rw [← hW1]; exact heap_alloc_new wo _) hb)
        go_wp2_with (first | (refine wpl_load rfl 54 _ rfl b (o + k * 16) rfl A1 _ F1.out Tryz.underlying54 rfl HI1.out ?_) | (refine wpl_store_new rfl 54 _ _ rfl _ A1 _ rfl rfl (by rw [HZ1.out]; rfl) HI1.out HO1.out ?_))
        rw [hW1]
        obtain ⟨kd, nm, ns, e, a, g, lo, hi, bd, el⟩ := x
        have HXC := Lib.hid (show ∀ w1, Below W1.heap.size W1 w1 → ∀ j z, (#[.int .i64 kd, .string (str nm), .slice s.pn ns.length s.cn, .int .i64 e.op, .int .u64 (e.word : Int), .string (str e.name), .slice s.pe e.args.len s.ce, .int .i64 a.op, .int .u64 (a.word : Int), .string (str a.name), .slice s.pa a.args.len s.ca, .slice s.pg g.len s.cg, .int .u64 (lo : Int), .int .u64 (hi : Int), .slice s.pb bd.len s.cb, .slice s.pl el.len s.cl] : Array Value)[j]? = some z → w1.cell? ⟨wo.heap.size, j, none⟩ = some z from fun w1 hb j z hz => HXA.out w1 hb j z (by rw [← hA1]; exact hz))
        simp only [St.size] at hrs
        simp only [St.wt] at hwt
        have HE := Lib.hid (fun (w1 : World) (hb : Below wo.heap.size wo w1) => rdepth_any e (by omega) s.pe s.ce wo.heap.size w1 (ok1.2.1.later hb (Nat.le_refl _)) hb.size)
        have HA := Lib.hid (fun (w1 : World) (hb : Below wo.heap.size wo w1) => rdepth_any a (by omega) s.pa s.ca wo.heap.size w1 (ok1.2.2.1.later hb (Nat.le_refl _)) hb.size)
        have HEn := Lib.hid (fun (w1 : World) => rNone_any e s.pe s.ce w1)
        have HAn := Lib.hid (fun (w1 : World) => rNone_any a s.pa s.ca w1)
        have HBd := Lib.hid (fun (w1 : World) (hb : Below wo.heap.size wo w1) => IH.out bd (by omega) (by omega) s.pb s.cb wo.heap.size w1 (ok1.2.2.2.2.1.later hb (Nat.le_refl _)) hb.size)
        have HEl := Lib.hid (fun (w1 : World) (hb : Below wo.heap.size wo w1) => IH.out el (by omega) (by omega) s.pl s.cl wo.heap.size w1 (ok1.2.2.2.2.2.1.later hb (Nat.le_refl _)) hb.size)
        have HOK := Lib.hid ok1
        unfold Ex.val at HE HA HEn HAn
        have hE' : l.deep = max v (max (max (max (max (max bd.deep el.deep) g.deepest) e.dp) a.dp + 1) r.deep) := by have := hE.out; simpa only [Sts.deep, St.deep] using this
        have HE2 := Lib.hid hE'
        have b1 := Sts.deep_le bd
        have b2 := Sts.deep_le el
        have b3 := Ex.dp_le e
        have b4 := Ex.dp_le a
        clear ok1 F1 HZ1 HO1 HI1 HXA hA1 c1 hx hr ha hE' hE
        generalize bd.deep = db at HBd HE2 b1
        generalize el.deep = de at HEl HE2 b2
        obtain ⟨m1, hm1e⟩ : ∃ m, m = max db de := ⟨_, rfl⟩
        have hmx : max (db : Int) (de : Int) = (m1 : Int) := by omega
        rw [← hm1e] at HE2
        have hm1b : m1 ≤ 1000000 := by omega
        clear hm1e
        go_upto_region 6 with fail
        simp only [Act.put]
        go_cut [6] from 18 to 24 (fun s6 wx => s6 = .int .i64 (m1 : Nat) ∧ Hid (Below wo.heap.size wo wx) ∧ Hid (Below W1.heap.size W1 wx))
        case first =>
          have HS1 : Below wo.heap.size wo W1.drew := HWr.out.drew
          have HS2 : Below W1.heap.size W1 W1.drew := (Below.refl _ _).drew
          refine wp_region_held_drew (S := fun W => Below wo.heap.size wo W ∧ Below W1.heap.size W1 W ∧ W.cell? ⟨wo.heap.size, 14, none⟩ = some (.slice s.pb bd.len s.cb) ∧ W.cell? ⟨wo.heap.size, 15, none⟩ = some (.slice s.pl el.len s.cl)) (by kernel_rfl) ?_ (fun hHeld => ?_)
          · exact ⟨HS1, HS2, HXC.out _ HS2 14 _ rfl, HXC.out _ HS2 15 _ rfl⟩
          refine wpAnyH_take (i := 0) (oi := { dst := Option.some 18, op := Go.Op.fieldAddr 54 (Go.Operand.tmp 5) 8, type := 0, pos := "ref.go:53", after := #[], guard := Option.none }) (v := ?_) rfl (by kernel_rfl) (by kernel_rfl) (by kernel_rfl) (fun _ _ _ h => h) (Or.inl ⟨by rfl, ?_⟩) (by assumption) ?_
          rotate_left
          · (intro w hSw; (try dsimp only at hSw); go_simp; try with_reducible rfl)
          try simp only [Act.put, List.setIfInBounds_toArray, List.set_cons_zero, List.set_cons_succ]
          refine wpAnyH_take (i := 1) (oi := { dst := Option.some 19, op := Go.Op.load 47 (Go.Operand.tmp 18), type := 47, pos := "ref.go:53", after := #[{ on := 0, ground := Go.Ground.data }], guard := Option.none }) (v := ?_) rfl (by kernel_rfl) (by kernel_rfl) (by kernel_rfl) (fun _ _ _ h => h) (Or.inl ⟨by rfl, ?_⟩) (by assumption) ?_
          rotate_left
          · (intro w hSw; (try dsimp only at hSw); go_simp; try with_reducible rfl)
          try simp only [Act.put, List.setIfInBounds_toArray, List.set_cons_zero, List.set_cons_succ]
          refine wpAnyH_take (i := 3) (oi := { dst := Option.some 21, op := Go.Op.fieldAddr 54 (Go.Operand.tmp 5) 9, type := 0, pos := "ref.go:53", after := #[], guard := Option.none }) (v := ?_) rfl (by kernel_rfl) (by kernel_rfl) (by kernel_rfl) (fun _ _ _ h => h) (Or.inl ⟨by rfl, ?_⟩) (by assumption) ?_
          rotate_left
          · (intro w hSw; (try dsimp only at hSw); go_simp; try with_reducible rfl)
          try simp only [Act.put, List.setIfInBounds_toArray, List.set_cons_zero, List.set_cons_succ]
          refine wpAnyH_take (i := 4) (oi := { dst := Option.some 22, op := Go.Op.load 47 (Go.Operand.tmp 21), type := 47, pos := "ref.go:53", after := #[{ on := 3, ground := Go.Ground.data }], guard := Option.none }) (v := ?_) rfl (by kernel_rfl) (by kernel_rfl) (by kernel_rfl) (fun _ _ _ h => h) (Or.inl ⟨by rfl, ?_⟩) (by assumption) ?_
          rotate_left
          · (intro w hSw; (try dsimp only at hSw); go_simp; try with_reducible rfl)
          try simp only [Act.put, List.setIfInBounds_toArray, List.set_cons_zero, List.set_cons_succ]
          refine wpAnyH_ready (rs := [2]) (by kernel_rfl) (by simp) ?_
          refine AllReadyH.cons (o := { dst := Option.some 20, op := Go.Op.call { callee := Go.Callee.value (Go.Operand.func 134), args := #[Go.Operand.tmp 19], argTypes := #[47] }, type := 3, pos := "ref.go:53", after := #[{ on := 1, ground := Go.Ground.data }], guard := Option.none }) rfl (fun K hK => ?_) AllReadyH.nil
          go_simp
          refine (HBd.out _ HS1).mono ?_
          rintro z w2 ⟨rfl, hB2⟩
          replace HS2 := HS2.trans (hB2.mono HS2.size)
          replace HS1 := HS1.trans (hB2.mono HS1.size)
          clear hB2
          refine hK.out _ _ ?_ (fun hHeld => ?_)
          · exact ⟨HS1, HS2, HXC.out _ HS2 14 _ rfl, HXC.out _ HS2 15 _ rfl⟩
          clear hK K
          try simp only [Act.put, List.setIfInBounds_toArray, List.set_cons_zero, List.set_cons_succ]
          refine wpAnyH_ready (rs := [5]) (by kernel_rfl) (by simp) ?_
          refine AllReadyH.cons (o := { dst := Option.some 23, op := Go.Op.call { callee := Go.Callee.value (Go.Operand.func 134), args := #[Go.Operand.tmp 22], argTypes := #[47] }, type := 3, pos := "ref.go:53", after := #[{ on := 4, ground := Go.Ground.data }, { on := 2, ground := Go.Ground.chain }], guard := Option.none }) rfl (fun K hK => ?_) AllReadyH.nil
          go_simp
          refine (HEl.out _ HS1).mono ?_
          rintro z w3 ⟨rfl, hB2⟩
          replace HS2 := HS2.trans (hB2.mono HS2.size)
          replace HS1 := HS1.trans (hB2.mono HS1.size)
          clear hB2
          refine hK.out _ _ ?_ (fun hHeld => ?_)
          · exact ⟨HS1, HS2, HXC.out _ HS2 14 _ rfl, HXC.out _ HS2 15 _ rfl⟩
          clear hK K
          try simp only [Act.put, List.setIfInBounds_toArray, List.set_cons_zero, List.set_cons_succ]
          refine wpAnyH_take (i := 6) (oi := { dst := Option.some 24, op := Go.Op.call { callee := Go.Callee.builtin Go.Builtin.max, args := #[Go.Operand.tmp 20, Go.Operand.tmp 23], argTypes := #[3, 3] }, type := 3, pos := "ref.go:53", after := #[{ on := 2, ground := Go.Ground.data }, { on := 5, ground := Go.Ground.data }], guard := Option.none }) (v := .int .i64 (m1 : Nat)) rfl (by kernel_rfl) (by kernel_rfl) (by kernel_rfl) (fun _ _ _ h => h) (Or.inl ⟨by rfl, ?_⟩) (by assumption) ?_
          · (intro w hSw; (try dsimp only at hSw); go_simp; (try rw [hmx]))
          try simp only [Act.put, List.setIfInBounds_toArray, List.set_cons_zero, List.set_cons_succ]
          refine wpAnyH_take (i := 7) (oi := { dst := Option.some 6, op := Go.Op.assign (Go.Operand.tmp 24), type := 3, pos := "ref.go:53", after := #[{ on := 6, ground := Go.Ground.data }, { on := 5, ground := Go.Ground.chain }, { on := 0, ground := Go.Ground.phase }, { on := 1, ground := Go.Ground.phase }, { on := 2, ground := Go.Ground.phase }, { on := 3, ground := Go.Ground.phase }, { on := 4, ground := Go.Ground.phase }, { on := 5, ground := Go.Ground.phase }, { on := 6, ground := Go.Ground.phase }], guard := Option.none }) (v := ?_) rfl (by kernel_rfl) (by kernel_rfl) (by kernel_rfl) (fun _ _ _ h => h) (Or.inl ⟨by rfl, ?_⟩) (by assumption) ?_
          rotate_left
          · (intro w hSw; (try dsimp only at hSw); go_simp; try with_reducible rfl)
          try simp only [Act.put, List.setIfInBounds_toArray, List.set_cons_zero, List.set_cons_succ]
          refine wpAnyH_done (by kernel_rfl) ?_ _
          go_wp2_with fail
          go_meet
          exact ⟨rfl, Lib.hid HS1, Lib.hid HS2⟩
        case rest =>
          obtain ⟨rfl, HS1, HS2⟩ := hcut
          clear HBd HEl hmx
          go_wp2_with fail
          go_loopw [6, 7] (fun t i wx => ∃ (j m2 : Nat) (y : Exs), t = .int .i64 m2 ∧ i = .int .i64 j ∧ j + y.len = g.len ∧ Hid (∀ b o, s.pg = some ⟨b, o, none⟩ → g.At wo wo.heap.size b o → y.At wo wo.heap.size b (o + j * 4)) ∧ m2 ≤ 1000000 ∧ y.size ≤ 1000000 ∧ Hid (l.deep = max v (max (max (max (max m2 y.deepest) e.dp) a.dp + 1) r.deep)) ∧ Hid (Below W1.heap.size W1 wx)) (fun _ i _ => g.len - (intOf i).toNat)
          case atStart => exact ⟨0, m1, g, rfl, rfl, by omega, Lib.hid fun b o _ h => by rw [Nat.zero_mul]; exact h, hm1b, by omega, HE2, HS2⟩
          case round =>
            clear HE2 HS1 HS2 hm1b
            obtain ⟨j, m2, y, rfl, rfl, hk3, hat3, hm2b, hy6, hE3, HB3⟩ := hrel
            have gx3 : wr.cell? ⟨wo.heap.size, 11, none⟩ = some (.slice s.pg g.len s.cg) := HXC.out _ HB3.out 11 _ rfl
            have hm3 : g.len ≤ 140737488355328 := HOK.out.2.2.2.1.1
            cases y with
            | nil =>
              simp only [Exs.len] at hk3
              have hge3 : ¬ j < g.len := by omega
              have HE4 := Lib.hid (show l.deep = max v (max (max (max m2 e.dp) a.dp + 1) r.deep) by have := hE3.out; simpa [Exs.deepest] using this)
              clear hE3
              have xe0 : wr.cell? ⟨wo.heap.size, 3, none⟩ = some (.int .i64 e.op) := HXC.out _ HB3.out 3 _ rfl
              have xe1 : wr.cell? ⟨wo.heap.size, 4, none⟩ = some (.int .u64 (e.word : Int)) := HXC.out _ HB3.out 4 _ rfl
              have xe2 : wr.cell? ⟨wo.heap.size, 5, none⟩ = some (.string (str e.name)) := HXC.out _ HB3.out 5 _ rfl
              have xe3 : wr.cell? ⟨wo.heap.size, 6, none⟩ = some (.slice s.pe e.args.len s.ce) := HXC.out _ HB3.out 6 _ rfl
              go_wp2_with fail
              refine (HEn.out _).mono ?_
              rintro q20 w20 ⟨rfl, hB4⟩
              replace HB3 := Lib.hid (HB3.out.trans (hB4.mono HB3.out.size))
              clear hB4 xe0 xe1 xe2 xe3
              cases hne : e.none with
              | true =>
                have de : e.dp = 0 := by unfold Ex.dp; rw [hne]; rfl
                have xa0 : w20.cell? ⟨wo.heap.size, 7, none⟩ = some (.int .i64 a.op) := HXC.out _ HB3.out 7 _ rfl
                have xa1 : w20.cell? ⟨wo.heap.size, 8, none⟩ = some (.int .u64 (a.word : Int)) := HXC.out _ HB3.out 8 _ rfl
                have xa2 : w20.cell? ⟨wo.heap.size, 9, none⟩ = some (.string (str a.name)) := HXC.out _ HB3.out 9 _ rfl
                have xa3 : w20.cell? ⟨wo.heap.size, 10, none⟩ = some (.slice s.pa a.args.len s.ca) := HXC.out _ HB3.out 10 _ rfl
                go_wp2_with fail
                refine (HAn.out _).mono ?_
                rintro q21 w21 ⟨rfl, hB4⟩
                replace HB3 := Lib.hid (HB3.out.trans (hB4.mono HB3.out.size))
                clear hB4 xa0 xa1 xa2 xa3
                cases hna : a.none with
                | true =>
                  have da : a.dp = 0 := by unfold Ex.dp; rw [hna]; rfl
                  have hfin : l.deep = max (max v (m2 + 1)) r.deep := by have := HE4.out; (try have t20 := HM20.out); (try have t21 := HM21.out); (try have t22 := HM22.out); (try have t23 := HM23.out); (try have t24 := HM24.out); (try have t25 := HM25.out); (try have t26 := HM26.out); (try have t27 := HM27.out); (try have t28 := HM28.out); (try have t29 := HM29.out); omega
                  have HFin := Lib.hid hfin
                  have hz1 : IntKind.i64.wrap ((m2 : Int) + 1) = (m2 : Int) + 1 := IntWalk.i64_in _ (by omega)
                  have hz2 : max (v : Int) ((m2 : Int) + 1) = ((max v (m2 + 1) : Nat) : Int) := by omega
                  clear hfin
                  go_wp2_with fail
                  go_roundw
                  case rel => exact ⟨k + 1, max v (m2 + 1), r, rfl, by go_num, by omega, by omega, Lib.hid fun b' o' e _ => by cases e; rw [show o + (k + 1) * 16 = o + k * 16 + 16 by omega]; exact HR.out, by omega, by omega, HFin, Lib.hid (HW1.out.trans (HB3.out.mono HW1.out.size))⟩
                  case measure => simp [intOf]; omega
                | false =>
                  have da : a.dp = a.depth := by unfold Ex.dp; rw [hna]; rfl
                  have xa0 : w21.cell? ⟨wo.heap.size, 7, none⟩ = some (.int .i64 a.op) := HXC.out _ HB3.out 7 _ rfl
                  have xa1 : w21.cell? ⟨wo.heap.size, 8, none⟩ = some (.int .u64 (a.word : Int)) := HXC.out _ HB3.out 8 _ rfl
                  have xa2 : w21.cell? ⟨wo.heap.size, 9, none⟩ = some (.string (str a.name)) := HXC.out _ HB3.out 9 _ rfl
                  have xa3 : w21.cell? ⟨wo.heap.size, 10, none⟩ = some (.slice s.pa a.args.len s.ca) := HXC.out _ HB3.out 10 _ rfl
                  have HD := Lib.hid (HA.out w21 (HWr.out.trans (HB3.out.mono HWr.out.size)))
                  rw [← da] at HD
                  obtain ⟨dav, hdav⟩ : ∃ d, a.dp = d := ⟨_, rfl⟩
                  rw [hdav] at HD
                  go_wp2_with fail
                  refine HD.out.mono ?_
                  rintro q21' w21' ⟨rfl, hB4⟩
                  replace HB3 := Lib.hid (HB3.out.trans (hB4.mono HB3.out.size))
                  clear hB4 HD xa0 xa1 xa2 xa3
                  obtain ⟨m21, hm21⟩ : ∃ m, m = max m2 dav := ⟨_, rfl⟩
                  have hx21 : max (m2 : Int) (dav : Int) = (m21 : Int) := by omega
                  have hy21 : m21 ≤ 1000000 := by omega
                  have HM21 := Lib.hid hm21
                  clear hm21
                  have hfin : l.deep = max (max v (m21 + 1)) r.deep := by have := HE4.out; (try have t20 := HM20.out); (try have t21 := HM21.out); (try have t22 := HM22.out); (try have t23 := HM23.out); (try have t24 := HM24.out); (try have t25 := HM25.out); (try have t26 := HM26.out); (try have t27 := HM27.out); (try have t28 := HM28.out); (try have t29 := HM29.out); omega
                  have HFin := Lib.hid hfin
                  have hz1 : IntKind.i64.wrap ((m21 : Int) + 1) = (m21 : Int) + 1 := IntWalk.i64_in _ (by omega)
                  have hz2 : max (v : Int) ((m21 : Int) + 1) = ((max v (m21 + 1) : Nat) : Int) := by omega
                  clear hfin
                  go_wp2_with fail
                  go_roundw
                  case rel => exact ⟨k + 1, max v (m21 + 1), r, rfl, by go_num, by omega, by omega, Lib.hid fun b' o' e _ => by cases e; rw [show o + (k + 1) * 16 = o + k * 16 + 16 by omega]; exact HR.out, by omega, by omega, HFin, Lib.hid (HW1.out.trans (HB3.out.mono HW1.out.size))⟩
                  case measure => simp [intOf]; omega
              | false =>
                have de : e.dp = e.depth := by unfold Ex.dp; rw [hne]; rfl
                have xe0 : w20.cell? ⟨wo.heap.size, 3, none⟩ = some (.int .i64 e.op) := HXC.out _ HB3.out 3 _ rfl
                have xe1 : w20.cell? ⟨wo.heap.size, 4, none⟩ = some (.int .u64 (e.word : Int)) := HXC.out _ HB3.out 4 _ rfl
                have xe2 : w20.cell? ⟨wo.heap.size, 5, none⟩ = some (.string (str e.name)) := HXC.out _ HB3.out 5 _ rfl
                have xe3 : w20.cell? ⟨wo.heap.size, 6, none⟩ = some (.slice s.pe e.args.len s.ce) := HXC.out _ HB3.out 6 _ rfl
                have HD := Lib.hid (HE.out w20 (HWr.out.trans (HB3.out.mono HWr.out.size)))
                rw [← de] at HD
                obtain ⟨dev, hdev⟩ : ∃ d, e.dp = d := ⟨_, rfl⟩
                rw [hdev] at HD
                go_wp2_with fail
                refine HD.out.mono ?_
                rintro q20' w20' ⟨rfl, hB4⟩
                replace HB3 := Lib.hid (HB3.out.trans (hB4.mono HB3.out.size))
                clear hB4 HD xe0 xe1 xe2 xe3
                obtain ⟨m20, hm20⟩ : ∃ m, m = max m2 dev := ⟨_, rfl⟩
                have hx20 : max (m2 : Int) (dev : Int) = (m20 : Int) := by omega
                have hy20 : m20 ≤ 1000000 := by omega
                have HM20 := Lib.hid hm20
                clear hm20
                have xa0 : w20'.cell? ⟨wo.heap.size, 7, none⟩ = some (.int .i64 a.op) := HXC.out _ HB3.out 7 _ rfl
                have xa1 : w20'.cell? ⟨wo.heap.size, 8, none⟩ = some (.int .u64 (a.word : Int)) := HXC.out _ HB3.out 8 _ rfl
                have xa2 : w20'.cell? ⟨wo.heap.size, 9, none⟩ = some (.string (str a.name)) := HXC.out _ HB3.out 9 _ rfl
                have xa3 : w20'.cell? ⟨wo.heap.size, 10, none⟩ = some (.slice s.pa a.args.len s.ca) := HXC.out _ HB3.out 10 _ rfl
                go_wp2_with fail
                refine (HAn.out _).mono ?_
                rintro q22 w22 ⟨rfl, hB4⟩
                replace HB3 := Lib.hid (HB3.out.trans (hB4.mono HB3.out.size))
                clear hB4 xa0 xa1 xa2 xa3
                cases hna : a.none with
                | true =>
                  have da : a.dp = 0 := by unfold Ex.dp; rw [hna]; rfl
                  have hfin : l.deep = max (max v (m20 + 1)) r.deep := by have := HE4.out; (try have t20 := HM20.out); (try have t21 := HM21.out); (try have t22 := HM22.out); (try have t23 := HM23.out); (try have t24 := HM24.out); (try have t25 := HM25.out); (try have t26 := HM26.out); (try have t27 := HM27.out); (try have t28 := HM28.out); (try have t29 := HM29.out); omega
                  have HFin := Lib.hid hfin
                  have hz1 : IntKind.i64.wrap ((m20 : Int) + 1) = (m20 : Int) + 1 := IntWalk.i64_in _ (by omega)
                  have hz2 : max (v : Int) ((m20 : Int) + 1) = ((max v (m20 + 1) : Nat) : Int) := by omega
                  clear hfin
                  go_wp2_with fail
                  go_roundw
                  case rel => exact ⟨k + 1, max v (m20 + 1), r, rfl, by go_num, by omega, by omega, Lib.hid fun b' o' e _ => by cases e; rw [show o + (k + 1) * 16 = o + k * 16 + 16 by omega]; exact HR.out, by omega, by omega, HFin, Lib.hid (HW1.out.trans (HB3.out.mono HW1.out.size))⟩
                  case measure => simp [intOf]; omega
                | false =>
                  have da : a.dp = a.depth := by unfold Ex.dp; rw [hna]; rfl
                  have xa0 : w22.cell? ⟨wo.heap.size, 7, none⟩ = some (.int .i64 a.op) := HXC.out _ HB3.out 7 _ rfl
                  have xa1 : w22.cell? ⟨wo.heap.size, 8, none⟩ = some (.int .u64 (a.word : Int)) := HXC.out _ HB3.out 8 _ rfl
                  have xa2 : w22.cell? ⟨wo.heap.size, 9, none⟩ = some (.string (str a.name)) := HXC.out _ HB3.out 9 _ rfl
                  have xa3 : w22.cell? ⟨wo.heap.size, 10, none⟩ = some (.slice s.pa a.args.len s.ca) := HXC.out _ HB3.out 10 _ rfl
                  have HD := Lib.hid (HA.out w22 (HWr.out.trans (HB3.out.mono HWr.out.size)))
                  rw [← da] at HD
                  obtain ⟨dav, hdav⟩ : ∃ d, a.dp = d := ⟨_, rfl⟩
                  rw [hdav] at HD
                  go_wp2_with fail
                  refine HD.out.mono ?_
                  rintro q22' w22' ⟨rfl, hB4⟩
                  replace HB3 := Lib.hid (HB3.out.trans (hB4.mono HB3.out.size))
                  clear hB4 HD xa0 xa1 xa2 xa3
                  obtain ⟨m22, hm22⟩ : ∃ m, m = max m20 dav := ⟨_, rfl⟩
                  have hx22 : max (m20 : Int) (dav : Int) = (m22 : Int) := by omega
                  have hy22 : m22 ≤ 1000000 := by omega
                  have HM22 := Lib.hid hm22
                  clear hm22
                  have hfin : l.deep = max (max v (m22 + 1)) r.deep := by have := HE4.out; (try have t20 := HM20.out); (try have t21 := HM21.out); (try have t22 := HM22.out); (try have t23 := HM23.out); (try have t24 := HM24.out); (try have t25 := HM25.out); (try have t26 := HM26.out); (try have t27 := HM27.out); (try have t28 := HM28.out); (try have t29 := HM29.out); omega
                  have HFin := Lib.hid hfin
                  have hz1 : IntKind.i64.wrap ((m22 : Int) + 1) = (m22 : Int) + 1 := IntWalk.i64_in _ (by omega)
                  have hz2 : max (v : Int) ((m22 : Int) + 1) = ((max v (m22 + 1) : Nat) : Int) := by omega
                  clear hfin
                  go_wp2_with fail
                  go_roundw
                  case rel => exact ⟨k + 1, max v (m22 + 1), r, rfl, by go_num, by omega, by omega, Lib.hid fun b' o' e _ => by cases e; rw [show o + (k + 1) * 16 = o + k * 16 + 16 by omega]; exact HR.out, by omega, by omega, HFin, Lib.hid (HW1.out.trans (HB3.out.mono HW1.out.size))⟩
                  case measure => simp [intOf]; omega
            | cons z y =>
              simp only [Exs.len] at hk3
              simp only [Exs.size] at hy6
              have hlt3 : j < g.len := by omega
              · rcases (show g.In wo wo.heap.size s.pg from HOK.out.2.2.2.1).2 with h30 | ⟨b3, o3, hp3, hb3, ha3⟩
                · omega
                obtain ⟨hz, hzr⟩ := hat3.out b3 o3 hp3 ha3
                have hBo : Below wo.heap.size wo wr := HWr.out.trans (HB3.out.mono HWr.out.size)
                obtain ⟨q, cq, d0, d1, d2, d3, hokz⟩ := (Ex.At.later hBo hBo.size z b3 _ hb3 hz).open'
                rw [hp3] at gx3
                have HC3 := Lib.hid (rdepth_any z (by omega) q cq wr.heap.size wr hokz (Nat.le_refl _))
                have hzd := Ex.depth_le z
                unfold Ex.val at HC3
                have HZR := Lib.hid hzr
                have HH := Lib.hid hp3
                have hmx2 : max (m2 : Int) (z.depth : Int) = ((max m2 z.depth : Nat) : Int) := by omega
                have HE4 := Lib.hid (show l.deep = max v (max (max (max (max (max m2 z.depth) y.deepest) e.dp) a.dp + 1) r.deep) by have := hE3.out; simp only [Exs.deepest] at this; omega)
                clear ha3 hz hzr hokz hp3 hat3 hBo hE3
                generalize z.depth = dz at HC3 hzd hmx2 HE4
                go_wp2_with fail
                refine HC3.out.mono ?_
                rintro e3 w3 ⟨rfl, hB4⟩
                have HB5 := Lib.hid (HB3.out.trans (hB4.mono HB3.out.size))
                clear hB4 HC3 d0 d1 d2 d3
                go_wp2_with fail
                go_roundw
                case rel => exact ⟨j + 1, max m2 dz, y, by rw [← hmx2], by go_num, by omega, Lib.hid fun b o hbo _ => by have := HH.out.symm.trans hbo; cases this; rw [show o3 + (j + 1) * 4 = o3 + j * 4 + 4 by omega]; exact HZR.out, by omega, by omega, HE4, HB5⟩
                case measure => simp [intOf]; omega
theorem rds_to : ∀ n, RDS n
  | 0 => fun _ h => absurd h (Nat.not_lt_zero _)
  | n + 1 => rds_step n (rds_to n)
/-- the document's Deep of any statements that are not too many -/
theorem rDeep_any (l : Sts) (h6 : l.wt ≤ 1000000) (p : Option Addr) (c N : Nat) (w : World) (h : l.In w N p) (hN : N ≤ w.heap.size) :
    Calls Tryz.prog 134 #[.slice p l.len c] w fun e w' => e = .returned (.int .i64 (l.deep : Nat)) ∧ Below w.heap.size w w' :=
  rds_to _ l (Nat.lt_succ_self _) h6 p c N w h hN
end Go.Proofs.YtlhbledakddbbaaGreatDoor
/- Which statements, functions and programs can be told, and their lines. -/
namespace Go.Proofs.YtlhbledakddbbaaGreatDoor
open Go.RowKit

def namesB (l : List (List UInt8)) : Bool := l.all nameB
/-- nothing, as an expression -/
def E0 : Ex := .mk 0 0 [] .nil
def St.isZero : St → Bool
  | .mk kd nm ns e a g lo hi bd el => decide (kd = 0) && (nm.isEmpty && (decide (ns.length = 0) && (e.none && (a.none && (decide (g.len = 0) && (decide (lo = 0) && (decide (hi = 0) && (decide (bd.len = 0) && decide (el.len = 0)))))))))
/-- what a statement has besides what its kind names -/
def restSt (kd : Int) (nm : List UInt8) (ns : List (List UInt8)) (e a : Ex) (g : Exs) (lo hi : Nat) (bd el : Sts) : St :=
  if kd = 1 then .mk 0 [] ns E0 a g lo hi bd el
  else if kd = 2 then .mk 0 [] ns E0 E0 g lo hi bd el
  else if kd = 3 then .mk 0 nm ns E0 a g lo hi .nil .nil
  else if kd = 4 then .mk 0 nm ns E0 a g lo hi .nil el
  else if kd = 5 then .mk 0 [] ns e a g 0 0 .nil el
  else if kd = 6 then .mk 0 [] [] e a .nil lo hi bd el
  else .mk 0 nm ns e a g lo hi bd el
mutual
def St.may : St → Bool
  | .mk kd nm ns e a g lo hi bd el =>
    (if kd = 1 then nameB nm && e.may
     else if kd = 2 then nameB nm && (a.may && e.may)
     else if kd = 3 then e.may && (bd.may && el.may)
     else if kd = 4 then e.may && bd.may
     else if kd = 5 then nameB nm && bd.may
     else if kd = 6 then nameB nm && (namesB ns && g.may)
     else false) && (restSt kd nm ns e a g lo hi bd el).isZero
def Sts.may : Sts → Bool
  | .nil => true
  | .cons x r => x.may && r.may
end
/-- statements that can be told -/
def Sts.can (l : Sts) : Bool := decide (l.deep ≤ 64) && l.may

def secT (s : Bool) : List UInt8 := if s then [32, 115, 101, 99, 114, 101, 116] else []
/-- a statement's first line -/
def firstT (kd : Int) (nm : List UInt8) (ns : List (List UInt8)) (et aT : List UInt8) (gt : List (List UInt8)) (lo hi : Nat) : List UInt8 :=
  if kd = 1 then nm ++ [32, 61, 32] ++ et ++ [59]
  else if kd = 2 then (nm ++ [91] ++ aT ++ [93]) ++ [32, 61, 32] ++ et ++ [59]
  else if kd = 3 then [105, 102, 32] ++ et ++ [32, 123]
  else if kd = 4 then [119, 104, 105, 108, 101, 32] ++ et ++ [32, 123]
  else if kd = 5 then [102, 111, 114, 32] ++ nm ++ [32] ++ Lib.decDigits lo ++ [32] ++ Lib.decDigits hi ++ [32, 123]
  else if ns.length = 0 then (nm ++ ([40] ++ Lib.join gt [44, 32] ++ [41])) ++ [59]
  else Lib.join ns [44, 32] ++ [32, 61, 32] ++ ((nm ++ ([40] ++ Lib.join gt [44, 32] ++ [41])) ++ [59])
def St.first (x : St) : List UInt8 := firstT x.kind x.name x.names x.e.text x.a.text x.args.texts x.low x.high
def elseT : List UInt8 := [125, 32, 101, 108, 115, 101, 32, 123]
mutual
def St.lines : St → Nat → List (Nat × List UInt8)
  | .mk kd nm ns e a g lo hi bd el, t =>
    (t, firstT kd nm ns e.text a.text g.texts lo hi) :: (if kd = 3 ∨ kd = 4 ∨ kd = 5 then
      bd.lines (t + 1) ++ ((if el.len = 0 then [] else (t, elseT) :: el.lines (t + 1)) ++ [(t, [125])])
    else [])
def Sts.lines : Sts → Nat → List (Nat × List UInt8)
  | .nil, _ => []
  | .cons x r, t => x.lines t ++ r.lines t
end
def upL (x : Nat × List UInt8) : Nat × List UInt8 := (x.1 + 1, x.2)
mutual
theorem St.lines_up : ∀ (x : St) (t : Nat), x.lines (t + 1) = (x.lines t).map upL
  | .mk kd nm ns e a g lo hi bd el, t => by
    simp only [St.lines, List.map_cons]
    split
    · split
      · simp only [List.map_append, List.map_cons, List.map_nil, List.nil_append, Sts.lines_up bd (t + 1), upL]
      · simp only [List.map_append, List.map_cons, List.map_nil, Sts.lines_up bd (t + 1), Sts.lines_up el (t + 1), upL]
    · rfl
theorem Sts.lines_up : ∀ (l : Sts) (t : Nat), l.lines (t + 1) = (l.lines t).map upL
  | .nil, _ => rfl
  | .cons x r, t => by simp only [Sts.lines, List.map_append, St.lines_up x t, Sts.lines_up r t]
end

def Rgn.may (r : Rgn) : Bool := nameB r.name && (decide (0 ≤ r.addr) && decide (0 ≤ r.size))
def Vr.mayP (v : Vr) : Bool := nameB v.name && (decide (v.kind = 1) && decide (v.size = 0))
def Vr.may (v : Vr) : Bool := if v.kind = 1 then v.mayP && !v.secret else if v.kind = 2 ∨ v.kind = 3 then nameB v.name && decide (0 ≤ v.size) else false
def Fnc.may (f : Fnc) : Bool := nameB f.name && (f.params.all Vr.mayP && (f.vars.all Vr.may && (namesB f.rets && f.body.can)))
def Prg.may (p : Prg) : Bool := p.regs.all Rgn.may && p.fns.all Fnc.may
def Rgn.line (r : Rgn) : List UInt8 := [114, 101, 103, 105, 111, 110, 32] ++ r.name ++ [32] ++ Lib.decDigits r.addr.toNat ++ [32] ++ Lib.decDigits r.size.toNat ++ secT r.secret ++ [59]
def Vr.word (v : Vr) : List UInt8 := if v.kind = 2 then [97, 114, 114, 97, 121, 32] else [115, 116, 97, 99, 107, 32]
def Vr.line (v : Vr) : List UInt8 := if v.kind = 1 then [118, 97, 114, 32] ++ v.name ++ [59] else v.word ++ v.name ++ [32] ++ Lib.decDigits v.size.toNat ++ secT v.secret ++ [59]
def Vr.param (v : Vr) : List UInt8 := v.name ++ secT v.secret
def Fnc.head (f : Fnc) : List UInt8 := ([102, 110, 32] ++ f.name ++ [40] ++ Lib.join (f.params.map Vr.param) [44, 32] ++ [41]) ++ (if f.rets.length = 0 then [] else [32, 45, 62, 32] ++ Lib.join f.rets [44, 32]) ++ [32, 123]
def Fnc.lines (f : Fnc) : List (Nat × List UInt8) := (0, f.head) :: (f.vars.map (fun v => (1, v.line)) ++ (f.body.lines 1 ++ [(0, [125])]))
def Prg.lines (p : Prg) : List (Nat × List UInt8) := p.regs.map (fun r => (0, r.line)) ++ p.fns.flatMap Fnc.lines
/-- lines as a text -/
def lineT (x : Nat × List UInt8) : List UInt8 := List.replicate x.1 9 ++ (x.2 ++ [10])
def linesT (l : List (Nat × List UInt8)) : List UInt8 := l.flatMap lineT
def Prg.text (p : Prg) : List UInt8 := linesT p.lines

theorem st_may_1 (nm : List UInt8) (ns : List (List UInt8)) (e a : Ex) (g : Exs) (lo hi : Nat) (bd el : Sts) : (St.mk 1 nm ns e a g lo hi bd el).may = ((nameB nm && e.may) && (St.mk 0 [] ns E0 a g lo hi bd el).isZero) := by simp [St.may, restSt]
theorem st_may_2 (nm : List UInt8) (ns : List (List UInt8)) (e a : Ex) (g : Exs) (lo hi : Nat) (bd el : Sts) : (St.mk 2 nm ns e a g lo hi bd el).may = ((nameB nm && (a.may && e.may)) && (St.mk 0 [] ns E0 E0 g lo hi bd el).isZero) := by simp [St.may, restSt]
theorem st_may_3 (nm : List UInt8) (ns : List (List UInt8)) (e a : Ex) (g : Exs) (lo hi : Nat) (bd el : Sts) : (St.mk 3 nm ns e a g lo hi bd el).may = ((e.may && (bd.may && el.may)) && (St.mk 0 nm ns E0 a g lo hi .nil .nil).isZero) := by simp [St.may, restSt]
theorem st_may_4 (nm : List UInt8) (ns : List (List UInt8)) (e a : Ex) (g : Exs) (lo hi : Nat) (bd el : Sts) : (St.mk 4 nm ns e a g lo hi bd el).may = ((e.may && bd.may) && (St.mk 0 nm ns E0 a g lo hi .nil el).isZero) := by simp [St.may, restSt]
theorem st_may_5 (nm : List UInt8) (ns : List (List UInt8)) (e a : Ex) (g : Exs) (lo hi : Nat) (bd el : Sts) : (St.mk 5 nm ns e a g lo hi bd el).may = ((nameB nm && bd.may) && (St.mk 0 [] ns e a g 0 0 .nil el).isZero) := by simp [St.may, restSt]
theorem st_may_6 (nm : List UInt8) (ns : List (List UInt8)) (e a : Ex) (g : Exs) (lo hi : Nat) (bd el : Sts) : (St.mk 6 nm ns e a g lo hi bd el).may = ((nameB nm && (namesB ns && g.may)) && (St.mk 0 [] [] e a .nil lo hi bd el).isZero) := by simp [St.may, restSt]
theorem st_may_no (kd : Int) (h : kd < 1 ∨ 6 < kd) (nm : List UInt8) (ns : List (List UInt8)) (e a : Ex) (g : Exs) (lo hi : Nat) (bd el : Sts) : (St.mk kd nm ns e a g lo hi bd el).may = false := by
  rw [St.may, if_neg (by omega), if_neg (by omega), if_neg (by omega), if_neg (by omega), if_neg (by omega), if_neg (by omega)]; rfl
end Go.Proofs.YtlhbledakddbbaaGreatDoor
/- How long lines are, how far in they stand, how they open and shut braces. -/
namespace Go.Proofs.YtlhbledakddbbaaGreatDoor
open Go.RowKit

mutual
def St.fine : St → Prop
  | .mk _ _ _ e a g lo hi bd el => (e.fine ∧ a.fine ∧ g.fine ∧ lo < 18446744073709551616 ∧ hi < 18446744073709551616) ∧ bd.fine ∧ el.fine
def Sts.fine : Sts → Prop
  | .nil => True
  | .cons x r => x.fine ∧ r.fine
end
theorem sumL_strs (l : List (List UInt8)) : sumL l ≤ 2 * strsT l := by
  induction l with
  | nil => exact Nat.le_refl _
  | cons x r ih => simp only [sumL, strsT]; omega
theorem first_eq (kd : Int) (nm : List UInt8) (ns : List (List UInt8)) (e a : Ex) (g : Exs) (lo hi : Nat) (bd el : Sts) : firstT kd nm ns e.text a.text g.texts lo hi = (St.mk kd nm ns e a g lo hi bd el).first := rfl
theorem first_len {x : St} (h : x.fine) : x.first.length ≤ 100 + 30 * x.total := by
  obtain ⟨kd, nm, ns, e, a, g, lo, hi, bd, el⟩ := x
  obtain ⟨⟨he, ha, hg, hlo, hhi⟩, _⟩ := h
  have h1 := e.text_le he
  have h2 := a.text_le ha
  have h3 := g.text_le hg
  have h4 := joinL_len g.texts
  have h5 := joinL_len ns
  have h6 := sumL_strs ns
  have h7 := dec_len hlo
  have h8 := dec_len hhi
  rw [← first_eq]
  simp only [St.total, firstT]
  repeat' split
  all_goals (simp only [List.length_append, List.length_cons, List.length_nil]; omega)
/-- each line: how far in, how long -/
def LnOk (t d m : Nat) (x : Nat × List UInt8) : Prop := t ≤ x.1 ∧ x.1 < t + d ∧ x.2.length ≤ 100 + 30 * m
mutual
theorem St.lines_ok : ∀ (x : St) (t : Nat), x.fine → ∀ y ∈ x.lines t, LnOk t x.deep x.total y
  | .mk kd nm ns e a g lo hi bd el, t, h => by
    have hf := first_len h
    have hb := Sts.lines_ok bd (t + 1) h.2.1
    have hl := Sts.lines_ok el (t + 1) h.2.2
    intro y hy
    simp only [St.lines, List.mem_cons] at hy
    simp only [St.deep, St.total] at *
    rcases hy with rfl | hy
    · exact ⟨Nat.le_refl _, by simp only []; omega, hf⟩
    · split at hy
      · rw [List.mem_append, List.mem_append] at hy
        rcases hy with hy | hy | hy
        · have := hb y hy; exact ⟨by have := this.1; omega, by have := this.2.1; omega, by have := this.2.2; omega⟩
        · split at hy
          · cases hy
          · rw [List.mem_cons] at hy
            rcases hy with rfl | hy
            · exact ⟨Nat.le_refl _, by simp only []; omega, by simp only [elseT, List.length_cons, List.length_nil]; omega⟩
            · have := hl y hy; exact ⟨by have := this.1; omega, by have := this.2.1; omega, by have := this.2.2; omega⟩
        · rw [List.mem_singleton] at hy
          subst hy
          exact ⟨Nat.le_refl _, by simp only []; omega, by simp only [List.length_cons, List.length_nil]; omega⟩
      · cases hy
theorem Sts.lines_ok : ∀ (l : Sts) (t : Nat), l.fine → ∀ y ∈ l.lines t, LnOk t l.deep l.total y
  | .nil, _, _ => fun _ h => by cases h
  | .cons x r, t, h => by
    have hx := St.lines_ok x t h.1
    have hr := Sts.lines_ok r t h.2
    intro y hy
    simp only [Sts.lines, List.mem_append] at hy
    simp only [Sts.deep, Sts.total]
    rcases hy with hy | hy
    · have := hx y hy; exact ⟨this.1, by have := this.2.1; omega, by have := this.2.2; omega⟩
    · have := hr y hy; exact ⟨this.1, by have := this.2.1; omega, by have := this.2.2; omega⟩
end

def shutO (o : Int) (s : List UInt8) : Int := if s.headD 0 = 125 then o - 1 else o
def stepO (o : Int) (s : List UInt8) : Int := if s.getLastD 0 = 123 then shutO o s + 1 else shutO o s
def openT : List (Nat × List UInt8) → Int → Int
  | [], o => o
  | x :: r, o => openT r (stepO o x.2)
def Braced : List (Nat × List UInt8) → Int → Prop
  | [], _ => True
  | x :: r, o => (x.2 ≠ [] ∧ (x.1 : Int) = shutO o x.2) ∧ Braced r (stepO o x.2)
theorem openT_app : ∀ (l r : List (Nat × List UInt8)) (o : Int), openT (l ++ r) o = openT r (openT l o)
  | [], _, _ => rfl
  | _x :: l, r, _o => openT_app l r _
theorem Braced.app : ∀ (l r : List (Nat × List UInt8)) (o : Int), Braced l o → Braced r (openT l o) → Braced (l ++ r) o
  | [], _, _, _, h => h
  | _x :: l, r, _o, h, k => ⟨h.1, Braced.app l r _ h.2 k⟩
theorem Braced.get : ∀ (l : List (Nat × List UInt8)) (o : Int), Braced l o → ∀ (k : Nat) (x : Nat × List UInt8), l[k]? = some x → x.2 ≠ [] ∧ (x.1 : Int) = shutO (openT (l.take k) o) x.2 ∧ openT (l.take (k + 1)) o = stepO (openT (l.take k) o) x.2
  | [], _, _, k, x, hk => by simp at hk
  | y :: l, o, h, 0, x, hk => by simp at hk; subst hk; exact ⟨h.1.1, h.1.2, rfl⟩
  | y :: l, o, h, k + 1, x, hk => by
    have := Braced.get l _ h.2 k x (by simpa using hk)
    simpa [List.take_succ_cons, openT] using this
theorem name_head {nm r : List UInt8} (h : nameB nm = true) : (nm ++ r).headD 0 ≠ 125 ∧ nm ++ r ≠ [] := by
  cases nm with
  | nil => rw [name_ne0] at h; cases h
  | cons c s =>
    simp only [nameB, Bool.and_eq_true] at h
    have hc := h.1.1.2
    refine ⟨?_, by simp⟩
    intro he
    simp only [List.headD_cons, List.cons_append] at he hc
    subst he
    revert hc; decide
where name_ne0 : nameB [] = false := by decide
theorem stepO_flat {o : Int} {s : List UInt8} (h : s.headD 0 ≠ 125) (k : s.getLastD 0 ≠ 123) : stepO o s = o := by rw [stepO, if_neg k, shutO, if_neg h]
theorem last_app (a b : List UInt8) (c : UInt8) : (a ++ (b ++ [c])).getLastD 0 = c := by
  rw [← List.append_assoc, List.getLastD_eq_getLast?, List.getLast?_append]; simp
theorem last_one (a : List UInt8) (c : UInt8) : (a ++ [c]).getLastD 0 = c := by
  rw [List.getLastD_eq_getLast?, List.getLast?_append]; simp
theorem last_two (a : List UInt8) (b c : UInt8) : (a ++ [b, c]).getLastD 0 = c := last_app a [b] c
theorem head_app (c : UInt8) (r s : List UInt8) : ((c :: r) ++ s).headD 0 = c := rfl
theorem join_head {ns : List (List UInt8)} (r : List UInt8) (h : namesB ns = true) (h0 : ns.length ≠ 0) : (Lib.join ns [44, 32] ++ r).headD 0 ≠ 125 ∧ Lib.join ns [44, 32] ++ r ≠ [] := by
  cases ns with
  | nil => exact absurd rfl h0
  | cons x s =>
    simp only [namesB, List.all_cons, Bool.and_eq_true] at h
    rw [Lib.join_cons, List.append_assoc]
    exact name_head h.1
theorem first_braced {x : St} (h : x.may = true) : x.first ≠ [] ∧ x.first.headD 0 ≠ 125 ∧ (x.first.getLastD 0 = 123 ↔ (x.kind = 3 ∨ x.kind = 4 ∨ x.kind = 5)) := by
  obtain ⟨kd, nm, ns, e, a, g, lo, hi, bd, el⟩ := x
  have hno : kd < 1 ∨ 6 < kd ∨ kd = 1 ∨ kd = 2 ∨ kd = 3 ∨ kd = 4 ∨ kd = 5 ∨ kd = 6 := by omega
  rw [← first_eq]
  simp only [St.kind]
  rcases hno with k | k | rfl | rfl | rfl | rfl | rfl | rfl
  · rw [st_may_no kd (.inl k)] at h; cases h
  · rw [st_may_no kd (.inr k)] at h; cases h
  · rw [st_may_1] at h; simp only [Bool.and_eq_true] at h
    have := name_head (r := [32, 61, 32] ++ e.text ++ [59]) h.1.1
    rw [firstT, if_pos rfl, last_one]
    simp only [List.append_assoc] at this ⊢
    exact ⟨this.2, this.1, by decide⟩
  · rw [st_may_2] at h; simp only [Bool.and_eq_true] at h
    have := name_head (r := [91] ++ a.text ++ [93] ++ [32, 61, 32] ++ e.text ++ [59]) h.1.1
    rw [firstT, if_neg (by decide), if_pos rfl, last_one]
    simp only [List.append_assoc] at this ⊢
    exact ⟨this.2, this.1, by decide⟩
  · rw [firstT, if_neg (by decide), if_neg (by decide), if_pos rfl, last_two]
    exact ⟨by simp, by rw [List.append_assoc, head_app]; decide, by decide⟩
  · rw [firstT, if_neg (by decide), if_neg (by decide), if_neg (by decide), if_pos rfl, last_two]
    exact ⟨by simp, by rw [List.append_assoc, head_app]; decide, by decide⟩
  · rw [firstT, if_neg (by decide), if_neg (by decide), if_neg (by decide), if_neg (by decide), if_pos rfl, last_two]
    exact ⟨by simp, by simp only [List.append_assoc]; rw [head_app]; decide, by decide⟩
  · rw [st_may_6] at h; simp only [Bool.and_eq_true] at h
    rw [firstT, if_neg (by decide), if_neg (by decide), if_neg (by decide), if_neg (by decide), if_neg (by decide)]
    split
    · have := name_head (r := [40] ++ Lib.join g.texts [44, 32] ++ [41] ++ [59]) h.1.1
      rw [last_one]
      simp only [List.append_assoc] at this ⊢
      exact ⟨this.2, this.1, by decide⟩
    · rename_i h0
      have := join_head (r := [32, 61, 32] ++ ((nm ++ ([40] ++ Lib.join g.texts [44, 32] ++ [41])) ++ [59])) h.1.2.1 h0
      rw [last_app]
      rw [List.append_assoc]
      exact ⟨this.2, this.1, by decide⟩
theorem open_shut (t : Nat) : Braced [(t, [125])] ((t + 1 : Nat) : Int) ∧ openT [(t, [125])] ((t + 1 : Nat) : Int) = (t : Int) := by
  have h1 : shutO ((t + 1 : Nat) : Int) [125] = (t : Int) := by
    have : shutO ((t + 1 : Nat) : Int) [125] = ((t + 1 : Nat) : Int) - 1 := if_pos rfl
    omega
  have h2 : stepO ((t + 1 : Nat) : Int) [125] = (t : Int) := by rw [stepO, if_neg (by decide), h1]
  exact ⟨⟨⟨by simp, h1.symm⟩, trivial⟩, h2⟩
theorem open_else (t : Nat) : shutO ((t + 1 : Nat) : Int) elseT = (t : Int) ∧ stepO ((t + 1 : Nat) : Int) elseT = ((t + 1 : Nat) : Int) := by
  have h0 : shutO ((t + 1 : Nat) : Int) elseT = ((t + 1 : Nat) : Int) - 1 := if_pos rfl
  have h1 : shutO ((t + 1 : Nat) : Int) elseT = (t : Int) := by omega
  have h2 : stepO ((t + 1 : Nat) : Int) elseT = shutO ((t + 1 : Nat) : Int) elseT + 1 := if_pos rfl
  exact ⟨h1, by omega⟩
mutual
theorem St.lines_braced : ∀ (x : St) (t : Nat), x.may = true → Braced (x.lines t) t ∧ openT (x.lines t) t = t
  | .mk kd nm ns e a g lo hi bd el, t, h => by
    obtain ⟨f1, f2, f3⟩ := first_braced h
    rw [← first_eq] at f1 f2 f3
    simp only [St.lines, St.kind] at f3 ⊢
    generalize firstT kd nm ns e.text a.text g.texts lo hi = s at *
    have hs : shutO (t : Int) s = (t : Int) := by rw [shutO, if_neg f2]
    by_cases hk : kd = 3 ∨ kd = 4 ∨ kd = 5
    · have hst : stepO (t : Int) s = ((t + 1 : Nat) : Int) := by rw [stepO, if_pos (f3.2 hk), hs]; omega
      have hb : bd.may = true := by
        rcases hk with rfl | rfl | rfl
        · rw [st_may_3] at h; simp only [Bool.and_eq_true] at h; exact h.1.2.1
        · rw [st_may_4] at h; simp only [Bool.and_eq_true] at h; exact h.1.2
        · rw [st_may_5] at h; simp only [Bool.and_eq_true] at h; exact h.1.2
      have hB := Sts.lines_braced bd (t + 1) hb
      rw [if_pos hk]
      by_cases h0 : el.len = 0
      · rw [if_pos h0, List.nil_append]
        refine ⟨⟨⟨f1, hs.symm⟩, ?_⟩, ?_⟩
        · rw [hst]; exact Braced.app _ _ _ hB.1 (by rw [hB.2]; exact (open_shut t).1)
        · rw [openT, hst, openT_app, hB.2]; exact (open_shut t).2
      · have he : el.may = true := by
          rcases hk with rfl | rfl | rfl
          · rw [st_may_3] at h; simp only [Bool.and_eq_true] at h; exact h.1.2.2
          · rw [st_may_4] at h; simp only [Bool.and_eq_true, St.isZero, decide_eq_true_eq] at h; exact absurd h.2.2.2.2.2.2.2.2.2.2 h0
          · rw [st_may_5] at h; simp only [Bool.and_eq_true, St.isZero, decide_eq_true_eq] at h; exact absurd h.2.2.2.2.2.2.2.2.2.2 h0
        have hE := Sts.lines_braced el (t + 1) he
        have oe := open_else t
        have hT0 : openT ((t, elseT) :: el.lines (t + 1)) ((t + 1 : Nat) : Int) = ((t + 1 : Nat) : Int) := by rw [openT]; simp only []; rw [oe.2, hE.2]
        have hTail : Braced (((t, elseT) :: el.lines (t + 1)) ++ [(t, [125])]) ((t + 1 : Nat) : Int) ∧ openT (((t, elseT) :: el.lines (t + 1)) ++ [(t, [125])]) ((t + 1 : Nat) : Int) = t := by
          constructor
          · refine Braced.app _ _ _ ⟨⟨by simp [elseT], oe.1.symm⟩, by simp only []; rw [oe.2]; exact hE.1⟩ ?_
            rw [hT0]; exact (open_shut t).1
          · rw [openT_app, hT0]; exact (open_shut t).2
        rw [if_neg h0]
        refine ⟨⟨⟨f1, hs.symm⟩, ?_⟩, ?_⟩
        · rw [hst]; exact Braced.app _ _ _ hB.1 (by rw [hB.2]; exact hTail.1)
        · rw [openT, hst, openT_app, hB.2]; exact hTail.2
    · have hst : stepO (t : Int) s = (t : Int) := by rw [stepO, if_neg (fun h => hk (f3.1 h)), hs]
      rw [if_neg hk]
      exact ⟨⟨⟨f1, hs.symm⟩, trivial⟩, by rw [openT, hst]; rfl⟩
theorem Sts.lines_braced : ∀ (l : Sts) (t : Nat), l.may = true → Braced (l.lines t) t ∧ openT (l.lines t) t = t
  | .nil, _, _ => ⟨trivial, rfl⟩
  | .cons x r, t, h => by
    rw [Sts.may, Bool.and_eq_true] at h
    have hx := St.lines_braced x t h.1
    have hr := Sts.lines_braced r t h.2
    simp only [Sts.lines]
    exact ⟨Braced.app _ _ _ hx.1 (by rw [hx.2]; exact hr.1), by rw [openT_app, hx.2]; exact hr.2⟩
end
end Go.Proofs.YtlhbledakddbbaaGreatDoor
/- How great statements and programs are that are short; where a list stands within another. -/
namespace Go.Proofs.YtlhbledakddbbaaGreatDoor
open Go.RowKit

theorem Exs.nil_of_len {a : Exs} (h : a.len = 0) : a = .nil := by cases a with | nil => rfl | cons => simp [Exs.len] at h
theorem Sts.nil_of_len {a : Sts} (h : a.len = 0) : a = .nil := by cases a with | nil => rfl | cons => simp [Sts.len] at h
mutual
theorem St.At.fine {w : World} {N : Nat} : ∀ (x : St) (b o : Nat), x.At w N b o → x.fine
  | .mk kd nm ns e a g lo hi bd el, b, o, h => by
    obtain ⟨⟨_, _, _, _, h4, h5⟩, _, he, ha, ⟨p2, c2, _, s2⟩, ⟨p3, c3, _, s3⟩, ⟨p4, c4, _, s4⟩⟩ := h
    refine ⟨⟨he.fine e _ _, ha.fine a _ _, ?_, h4, h5⟩, ?_, ?_⟩
    · rcases s2.2 with h0 | ⟨b', o', _, _, hr⟩
      · rw [Exs.nil_of_len h0]; trivial
      · exact hr.fine g _ _
    · rcases s3.2 with h0 | ⟨b', o', _, _, hr⟩
      · rw [Sts.nil_of_len h0]; trivial
      · exact Sts.At.fine bd b' o' hr
    · rcases s4.2 with h0 | ⟨b', o', _, _, hr⟩
      · rw [Sts.nil_of_len h0]; trivial
      · exact Sts.At.fine el b' o' hr
theorem Sts.At.fine {w : World} {N : Nat} : ∀ (l : Sts) (b o : Nat), l.At w N b o → l.fine
  | .nil, _, _, _ => trivial
  | .cons x r, b, o, h => ⟨St.At.fine x b o h.1, Sts.At.fine r b (o + 16) h.2⟩
end
theorem Sts.In.fine {w : World} {N : Nat} {l : Sts} {p : Option Addr} (h : l.In w N p) : l.fine := by
  rcases h.2 with h0 | ⟨b, o, _, _, hr⟩
  · rw [Sts.nil_of_len h0]; trivial
  · exact Sts.At.fine l b o hr
mutual
theorem St.wt_total : ∀ x : St, x.wt ≤ 10 * x.total
  | .mk kd nm ns e a g lo hi bd el => by
    have h1 := e.size_total
    have h2 := a.size_total
    have h3 := g.size_total
    have h4 := Sts.wt_total bd
    have h5 := Sts.wt_total el
    simp only [St.wt, St.total]; omega
theorem Sts.wt_total : ∀ l : Sts, l.wt ≤ 10 * l.total
  | .nil => by simp [Sts.wt]
  | .cons x r => by
    have h1 := St.wt_total x
    have h2 := Sts.wt_total r
    simp only [Sts.wt, Sts.total]; omega
end
/-- from d on L begins with S -/
def Seg {α : Type} (L : List α) (d : Nat) (S : List α) : Prop := ∃ T, L.drop d = S ++ T ∧ d ≤ L.length
theorem Seg.all {α : Type} (L : List α) : Seg L 0 L := ⟨[], by simp, Nat.zero_le _⟩
theorem Seg.len {α : Type} {L S : List α} {d : Nat} (h : Seg L d S) : d + S.length ≤ L.length := by
  obtain ⟨T, h, hd⟩ := h
  have := congrArg List.length h
  simp only [List.length_drop, List.length_append] at this
  omega
theorem Seg.get {α : Type} {L S : List α} {d : Nat} (h : Seg L d S) {j : Nat} {x : α} (hx : S[j]? = some x) : L[d + j]? = some x := by
  obtain ⟨T, h, _⟩ := h
  have hj : j < S.length := (List.getElem?_eq_some_iff.1 hx).1
  rw [← List.getElem?_drop, h, List.getElem?_append_left hj, hx]
theorem Seg.head {α : Type} {L S : List α} {d : Nat} {x : α} (h : Seg L d (x :: S)) : L[d]? = some x := by
  have := h.get (j := 0) (x := x) rfl
  simpa using this
theorem Seg.left {α : Type} {L A B : List α} {d : Nat} (h : Seg L d (A ++ B)) : Seg L d A := by
  obtain ⟨T, h, hd⟩ := h
  exact ⟨B ++ T, by rw [h, List.append_assoc], hd⟩
theorem Seg.right {α : Type} {L A B : List α} {d : Nat} (h : Seg L d (A ++ B)) : Seg L (d + A.length) B := by
  have hl := h.len
  obtain ⟨T, h, hd⟩ := h
  refine ⟨T, ?_, by rw [List.length_append] at hl; omega⟩
  rw [← List.drop_drop, h, List.append_assoc, List.drop_left]
theorem Seg.tail {α : Type} {L S : List α} {d : Nat} {x : α} (h : Seg L d (x :: S)) : Seg L (d + 1) S := Seg.right (A := [x]) h
theorem Seg.sub {α : Type} {L S M : List α} {d e : Nat} (h : Seg L d S) (k : Seg S e M) : Seg L (d + e) M := by
  have hl := h.len
  have kl := k.len
  obtain ⟨T, h, hd⟩ := h
  obtain ⟨U, k, ke⟩ := k
  refine ⟨U ++ T, ?_, by omega⟩
  rw [← List.drop_drop, h, List.drop_append_of_le_length ke, k, List.append_assoc]
end Go.Proofs.YtlhbledakddbbaaGreatDoor
/- Unlike expressions have unlike texts, whatever stands behind them. -/
namespace Go.Proofs.YtlhbledakddbbaaGreatDoor
open Go.RowKit

/-- how a text goes on behind an expression: not with a sign of a word, nor [ nor ( -/
def Stop (r : List UInt8) : Prop := ∀ c s, r = c :: s → isPart c = false ∧ c ≠ 91 ∧ c ≠ 40
theorem stop_of {c : UInt8} (s : List UInt8) (h : isPart c = false) (h1 : c ≠ 91) (h2 : c ≠ 40) : Stop (c :: s) := fun _ _ e => by cases e; exact ⟨h, h1, h2⟩
def Brk (r : List UInt8) : Prop := ∀ c s, r = c :: s → isPart c = false
theorem brk_of {c : UInt8} (s : List UInt8) (h : isPart c = false) : Brk (c :: s) := fun _ _ e => by cases e; exact h
theorem Stop.brk {r : List UInt8} (h : Stop r) : Brk r := fun c s e => (h c s e).1
/-- a word, and what stands behind it -/
theorem word_cut : ∀ (a b r s : List UInt8), a.all isPart = true → b.all isPart = true → Brk r → Brk s → a ++ r = b ++ s → a = b ∧ r = s
  | [], [], _, _, _, _, _, _, h => ⟨rfl, h⟩
  | [], y :: b, r, s, _, hb, hr, _, h => by
    simp only [List.nil_append, List.cons_append] at h
    simp only [List.all_cons, Bool.and_eq_true] at hb
    rw [hr _ _ h] at hb; cases hb.1
  | x :: a, [], r, s, ha, _, _, hs, h => by
    simp only [List.nil_append, List.cons_append] at h
    simp only [List.all_cons, Bool.and_eq_true] at ha
    rw [hs _ _ h.symm] at ha; cases ha.1
  | x :: a, y :: b, r, s, ha, hb, hr, hs, h => by
    simp only [List.cons_append, List.cons.injEq] at h
    simp only [List.all_cons, Bool.and_eq_true] at ha hb
    obtain ⟨hE, hF⟩ := h; subst hE; have h := hF; clear hF
    obtain ⟨hE, hF⟩ := word_cut a b r s ha.2 hb.2 hr hs h; clear h; subst hE; have h := hF; clear hF
    exact ⟨rfl, h⟩
theorem name_parts {nm : List UInt8} (h : nameB nm = true) : nm.all isPart = true ∧ (∃ c s, nm = c :: s ∧ isLet c = true) ∧ ownB nm = false := by
  cases nm with
  | nil => exact absurd h (by decide)
  | cons c s =>
    simp only [nameB, Bool.and_eq_true, Bool.not_eq_true'] at h
    exact ⟨h.2, ⟨c, s, rfl, h.1.1.2⟩, h.1.2⟩
theorem digit_ofNat {k : Nat} (h : k < 10) : isDig (UInt8.ofNat (48 + k)) = true := by
  rcases k with _ | _ | _ | _ | _ | _ | _ | _ | _ | _ | k
  all_goals first | rfl | omega
theorem dig_part {c : UInt8} (h : isDig c = true) : isPart c = true := by simp [isPart, h]
theorem dec_digits : ∀ (n x : Nat), x < n → (Lib.decDigits x).all isDig = true ∧ Lib.decDigits x ≠ []
  | 0, _, h => absurd h (Nat.not_lt_zero _)
  | n + 1, x, h => by
    rw [Lib.decDigits]
    split
    · rename_i h1
      exact ⟨by rw [List.all_cons, digit_ofNat h1]; rfl, by simp⟩
    · rename_i h1
      have := dec_digits n (x / 10) (by omega)
      exact ⟨by rw [List.all_append, this.1, List.all_cons, digit_ofNat (Nat.mod_lt x (by omega : 10 > 0))]; rfl, by simp⟩
theorem all_part_of_dig {l : List UInt8} (h : l.all isDig = true) : l.all isPart = true := by
  rw [List.all_eq_true] at h ⊢
  exact fun c hc => dig_part (h c hc)
theorem dec_parts (x : Nat) : (Lib.decDigits x).all isPart = true ∧ ∃ c s, Lib.decDigits x = c :: s ∧ isDig c = true := by
  have h := dec_digits (x + 1) x (Nat.lt_succ_self x)
  refine ⟨all_part_of_dig h.1, ?_⟩
  cases hd : Lib.decDigits x with
  | nil => exact absurd hd h.2
  | cons c s =>
    rw [hd, List.all_cons, Bool.and_eq_true] at h
    exact ⟨c, s, rfl, h.1.1⟩
theorem dec_inj : ∀ (n x y : Nat), x < n → Lib.decDigits x = Lib.decDigits y → x = y
  | 0, _, _, h, _ => absurd h (Nat.not_lt_zero _)
  | n + 1, x, y, h, e => by
    have last : ∀ {a b : List UInt8} {c d : UInt8}, a ++ [c] = b ++ [d] → a = b ∧ c = d := fun h => by
      have := List.append_inj' h rfl
      exact ⟨this.1, by simpa using this.2⟩
    have ofn : ∀ {a b : Nat}, a < 10 → b < 10 → UInt8.ofNat (48 + a) = UInt8.ofNat (48 + b) → a = b := fun ha hb h => by
      have := congrArg UInt8.toNat h
      simp only [UInt8.toNat_ofNat'] at this
      omega
    by_cases hx : x < 10
    · by_cases hy : y < 10
      · rw [Lib.decDigits, dif_pos hx, Lib.decDigits, dif_pos hy] at e
        exact ofn hx hy (by simpa using e)
      · rw [Lib.decDigits, dif_pos hx] at e
        conv at e => rhs; rw [Lib.decDigits, dif_neg hy]
        have := last (a := []) e
        exact absurd this.1.symm (dec_digits (y / 10 + 1) _ (Nat.lt_succ_self _)).2
    · by_cases hy : y < 10
      · rw [Lib.decDigits, dif_neg hx] at e
        conv at e => rhs; rw [Lib.decDigits, dif_pos hy]
        have := last (b := []) e
        exact absurd this.1 (dec_digits (x / 10 + 1) _ (Nat.lt_succ_self _)).2
      · rw [Lib.decDigits, dif_neg hx] at e
        conv at e => rhs; rw [Lib.decDigits, dif_neg hy]
        have h2 := last e
        have h3 := dec_inj n (x / 10) (y / 10) (by omega) h2.1
        have h4 := ofn (Nat.mod_lt x (by omega : 10 > 0)) (Nat.mod_lt y (by omega : 10 > 0)) h2.2
        omega
theorem dec_cut {x y : Nat} {r s : List UInt8} (hr : Brk r) (hs : Brk s) (h : Lib.decDigits x ++ r = Lib.decDigits y ++ s) : x = y ∧ r = s := by
  have := word_cut _ _ _ _ (dec_parts x).1 (dec_parts y).1 hr hs h
  exact ⟨dec_inj _ x y (Nat.lt_succ_self x) this.1, this.2⟩
theorem let_not_dig {c : UInt8} (h : isLet c = true) (k : isDig c = true) : False := by
  simp only [isLet, isDig, Bool.and_eq_true, decide_eq_true_eq] at h k; omega
theorem let_ne {c : UInt8} (h : isLet c = true) : c ≠ 126 ∧ c ≠ 45 ∧ c ≠ 40 ∧ c ≠ 41 ∧ c ≠ 125 ∧ c ≠ 9 ∧ c ≠ 10 ∧ c ≠ 32 := by
  refine ⟨?_, ?_, ?_, ?_, ?_, ?_, ?_, ?_⟩ <;> (intro e; subst e; revert h; decide)
theorem dig_ne {c : UInt8} (h : isDig c = true) : c ≠ 126 ∧ c ≠ 45 ∧ c ≠ 40 ∧ c ≠ 41 ∧ c ≠ 125 ∧ c ≠ 9 ∧ c ≠ 10 ∧ c ≠ 32 := by
  refine ⟨?_, ?_, ?_, ?_, ?_, ?_, ?_, ?_⟩ <;> (intro e; subst e; revert h; decide)
/-- signs have no blank, and no two have one text -/
theorem sign_cut {o p : Int} (h1 : 6 ≤ o) (h2 : o ≤ 20) (h3 : 6 ≤ p) (h4 : p ≤ 20) {r s : List UInt8} (h : signOf o ++ 32 :: r = signOf p ++ 32 :: s) : o = p ∧ r = s := by
  have hc : ∀ (a b r s : List UInt8), (∀ c ∈ a, c ≠ 32) → (∀ c ∈ b, c ≠ 32) → a ++ 32 :: r = b ++ 32 :: s → a = b ∧ r = s := by
    intro a
    induction a with
    | nil =>
      intro b r s _ hb h
      cases b with
      | nil => simp only [List.nil_append, List.cons.injEq, true_and] at h; exact ⟨rfl, h⟩
      | cons y b => simp only [List.nil_append, List.cons_append, List.cons.injEq] at h; exact absurd h.1.symm (hb y (by simp))
    | cons x a ih =>
      intro b r s ha hb h
      cases b with
      | nil => simp only [List.nil_append, List.cons_append, List.cons.injEq] at h; exact absurd h.1 (ha x (by simp))
      | cons y b =>
        simp only [List.cons_append, List.cons.injEq] at h
        obtain ⟨hE, hF⟩ := h; subst hE; have h := hF; clear hF
        obtain ⟨hE, hF⟩ := ih b r s (fun c hc => ha c (by simp [hc])) (fun c hc => hb c (by simp [hc])) h; clear h; subst hE; have h := hF; clear hF
        exact ⟨rfl, h⟩
  have all : ∀ (o : Int), 6 ≤ o → o ≤ 20 → ∀ c ∈ signOf o, c ≠ 32 := fun o h1 h2 => by
    rcases fifteen h1 h2 with rfl | rfl | rfl | rfl | rfl | rfl | rfl | rfl | rfl | rfl | rfl | rfl | rfl | rfl | rfl <;> decide
  obtain ⟨h5, h6⟩ := hc _ _ _ _ (all o h1 h2) (all p h3 h4) h
  refine ⟨?_, h6⟩
  rcases fifteen h1 h2 with rfl | rfl | rfl | rfl | rfl | rfl | rfl | rfl | rfl | rfl | rfl | rfl | rfl | rfl | rfl <;>
    rcases fifteen h3 h4 with rfl | rfl | rfl | rfl | rfl | rfl | rfl | rfl | rfl | rfl | rfl | rfl | rfl | rfl | rfl <;>
    first | rfl | (revert h5; decide)

/-- the forms of expressions that can be told -/
inductive Sh : Ex → List UInt8 → Prop where
  | const (wd : Nat) : Sh (.mk 1 wd [] .nil) (Lib.decDigits wd)
  | var (nm : List UInt8) (h : nameB nm = true) : Sh (.mk 2 0 nm .nil) nm
  | index (nm : List UInt8) (h : nameB nm = true) (y : Ex) (hy : y.may = true) : Sh (.mk 3 0 nm (.cons y .nil)) (nm ++ 91 :: (y.text ++ [93]))
  | not (y : Ex) (hy : y.may = true) : Sh (.mk 4 0 [] (.cons y .nil)) (126 :: y.text)
  | neg (y : Ex) (hy : y.may = true) : Sh (.mk 5 0 [] (.cons y .nil)) (45 :: y.text)
  | pick (x y z : Ex) (hx : x.may = true) (hy : y.may = true) (hz : z.may = true) : Sh (.mk 21 0 [] (.cons x (.cons y (.cons z .nil)))) ([112, 105, 99, 107] ++ 40 :: (x.text ++ 44 :: 32 :: (y.text ++ 44 :: 32 :: (z.text ++ [41]))))
  | two (op : Int) (h1 : 6 ≤ op) (h2 : op ≤ 20) (x y : Ex) (hx : x.may = true) (hy : y.may = true) : Sh (.mk op 0 [] (.cons x (.cons y .nil))) (40 :: (x.text ++ 32 :: (signOf op ++ 32 :: (y.text ++ [41]))))
theorem Exs.len_zero {a : Exs} (h : a.len = 0) : a = .nil := by cases a with | nil => rfl | cons => simp [Exs.len] at h
theorem Exs.three {l : Exs} (h : l.len = 3) : ∃ x y z, l = .cons x (.cons y (.cons z .nil)) := by
  cases l with
  | nil => cases h
  | cons x l => obtain ⟨y, z, rfl⟩ := Exs.two (l := l) (by simp only [Exs.len] at h; omega); exact ⟨x, y, z, rfl⟩
theorem empty_nil {l : List UInt8} (h : l.isEmpty = true) : l = [] := by cases l with | nil => rfl | cons => cases h
theorem Ex.shape {x : Ex} (h : x.may = true) : Sh x x.text := by
  obtain ⟨op, wd, nm, ar⟩ := x
  rw [Ex.may, Bool.and_eq_true, Bool.and_eq_true, decide_eq_true_eq] at h
  obtain ⟨⟨hlen, hma⟩, hok⟩ := h
  have hop : op ≤ 0 ∨ 22 ≤ op ∨ op = 1 ∨ op = 2 ∨ op = 3 ∨ op = 4 ∨ op = 5 ∨ op = 21 ∨ (6 ≤ op ∧ op ≤ 20) := by omega
  rcases hop with h | h | rfl | rfl | rfl | rfl | rfl | rfl | ⟨h6, h20⟩
  · rw [okOp, if_neg (by omega), if_neg (by omega), if_neg (by omega)] at hok; cases hok
  · rw [okOp, if_neg (by omega), if_neg (by omega), if_neg (by omega)] at hok; cases hok
  · obtain rfl := Exs.len_zero hlen
    rw [okOp, if_pos rfl] at hok
    obtain rfl := empty_nil hok
    exact Sh.const wd
  · obtain rfl := Exs.len_zero hlen
    rw [okOp, if_neg (by decide), if_pos (by decide), Bool.and_eq_true, decide_eq_true_eq] at hok
    obtain ⟨rfl, hn⟩ := hok
    exact Sh.var nm hn
  · obtain ⟨y, rfl⟩ := Exs.one hlen
    rw [okOp, if_neg (by decide), if_pos (by decide), Bool.and_eq_true, decide_eq_true_eq] at hok
    obtain ⟨rfl, hn⟩ := hok
    rw [Exs.may, Bool.and_eq_true] at hma
    have := Sh.index nm hn y hma.1
    rw [show (Ex.mk 3 0 nm (.cons y .nil)).text = nm ++ 91 :: (y.text ++ [93]) by simp [Ex.text, textOf, Exs.texts]]
    exact this
  · obtain ⟨y, rfl⟩ := Exs.one hlen
    rw [okOp, if_neg (by decide), if_neg (by decide), if_pos (by decide), Bool.and_eq_true, decide_eq_true_eq] at hok
    obtain ⟨rfl, hn⟩ := hok
    obtain rfl := empty_nil hn
    rw [Exs.may, Bool.and_eq_true] at hma
    rw [show (Ex.mk 4 0 [] (.cons y .nil)).text = 126 :: y.text by simp [Ex.text, textOf, Exs.texts]]
    exact Sh.not y hma.1
  · obtain ⟨y, rfl⟩ := Exs.one hlen
    rw [okOp, if_neg (by decide), if_neg (by decide), if_pos (by decide), Bool.and_eq_true, decide_eq_true_eq] at hok
    obtain ⟨rfl, hn⟩ := hok
    obtain rfl := empty_nil hn
    rw [Exs.may, Bool.and_eq_true] at hma
    rw [show (Ex.mk 5 0 [] (.cons y .nil)).text = 45 :: y.text by simp [Ex.text, textOf, Exs.texts]]
    exact Sh.neg y hma.1
  · obtain ⟨x, y, z, rfl⟩ := Exs.three hlen
    rw [okOp, if_neg (by decide), if_neg (by decide), if_pos (by decide), Bool.and_eq_true, decide_eq_true_eq] at hok
    obtain ⟨rfl, hn⟩ := hok
    obtain rfl := empty_nil hn
    simp only [Exs.may, Bool.and_eq_true] at hma
    rw [show (Ex.mk 21 0 [] (.cons x (.cons y (.cons z .nil)))).text = [112, 105, 99, 107] ++ 40 :: (x.text ++ 44 :: 32 :: (y.text ++ 44 :: 32 :: (z.text ++ [41]))) by
      simp [Ex.text, textOf, Exs.texts, Lib.join_cons, Lib.joinTail]]
    exact Sh.pick x y z hma.1 hma.2.1 hma.2.2.1
  · have hl2 : ar.len = 2 := by rw [hlen, argsN, if_neg (by omega), if_pos ⟨h6, h20⟩]
    obtain ⟨x, y, rfl⟩ := Exs.two hl2
    rw [okOp, if_neg (by omega), if_neg (by omega), if_pos (by omega), Bool.and_eq_true, decide_eq_true_eq] at hok
    obtain ⟨rfl, hn⟩ := hok
    obtain rfl := empty_nil hn
    simp only [Exs.may, Bool.and_eq_true] at hma
    rw [show (Ex.mk op 0 [] (.cons x (.cons y .nil))).text = 40 :: (x.text ++ 32 :: (signOf op ++ 32 :: (y.text ++ [41]))) by
      rw [Ex.text, textOf, if_neg (by omega), if_neg (by omega), if_neg (by omega), if_neg (by omega), if_neg (by omega), if_neg (by omega)]; simp [Exs.texts]]
    exact Sh.two op h6 h20 x y hma.1 hma.2.1
theorem pick_own : ownB [112, 105, 99, 107] = true := by decide
/-- how an expression's text begins -/
theorem Sh.head {x : Ex} {t : List UInt8} (h : Sh x t) : ∃ c s, t = c :: s ∧ c ≠ 41 ∧ c ≠ 125 ∧ c ≠ 9 := by
  cases h with
  | const wd => obtain ⟨_, c, s, e, hd⟩ := dec_parts wd; rw [e]; exact ⟨c, s, rfl, (dig_ne hd).2.2.2.1, (dig_ne hd).2.2.2.2.1, (dig_ne hd).2.2.2.2.2.1⟩
  | var nm h => obtain ⟨_, ⟨c, s, rfl, hd⟩, _⟩ := name_parts h; exact ⟨c, s, rfl, (let_ne hd).2.2.2.1, (let_ne hd).2.2.2.2.1, (let_ne hd).2.2.2.2.2.1⟩
  | index nm h y hy => obtain ⟨_, ⟨c, s, rfl, hd⟩, _⟩ := name_parts h; exact ⟨c, _, rfl, (let_ne hd).2.2.2.1, (let_ne hd).2.2.2.2.1, (let_ne hd).2.2.2.2.2.1⟩
  | not y hy => exact ⟨_, _, rfl, by decide, by decide, by decide⟩
  | neg y hy => exact ⟨_, _, rfl, by decide, by decide, by decide⟩
  | pick x y z hx hy hz => exact ⟨_, _, rfl, by decide, by decide, by decide⟩
  | two op h1 h2 x y hx hy => exact ⟨_, _, rfl, by decide, by decide, by decide⟩
theorem s93 (r : List UInt8) : Stop (93 :: r) := stop_of r (by decide) (by decide) (by decide)
theorem s44 (r : List UInt8) : Stop (44 :: r) := stop_of r (by decide) (by decide) (by decide)
theorem s41 (r : List UInt8) : Stop (41 :: r) := stop_of r (by decide) (by decide) (by decide)
theorem s32 (r : List UInt8) : Stop (32 :: r) := stop_of r (by decide) (by decide) (by decide)
theorem s59 (r : List UInt8) : Stop (59 :: r) := stop_of r (by decide) (by decide) (by decide)
theorem b91 (r : List UInt8) : Brk (91 :: r) := brk_of r (by decide)
theorem b40 (r : List UInt8) : Brk (40 :: r) := brk_of r (by decide)
theorem b32 (r : List UInt8) : Brk (32 :: r) := brk_of r (by decide)
theorem b44 (r : List UInt8) : Brk (44 :: r) := brk_of r (by decide)
theorem pick_parts : ([112, 105, 99, 107] : List UInt8).all isPart = true := by decide
theorem not_pick {nm : List UInt8} (h : nameB nm = true) (e : nm = [112, 105, 99, 107]) : False := by
  have := (name_parts h).2.2; rw [e, pick_own] at this; cases this
theorem let_dig_no {nm r s : List UInt8} {n : Nat} (h : nameB nm = true) (e : nm ++ r = Lib.decDigits n ++ s) : False := by
  obtain ⟨_, ⟨c, s1, rfl, hd⟩, _⟩ := name_parts h
  obtain ⟨_, c2, s2, e2, hd2⟩ := dec_parts n
  rw [e2] at e; simp only [List.cons_append, List.cons.injEq] at e
  obtain ⟨rfl, _⟩ := e
  exact let_not_dig hd hd2
theorem let_sign_no {nm r s : List UInt8} {c : UInt8} (h : nameB nm = true) (hc : c = 126 ∨ c = 45 ∨ c = 40) (e : nm ++ r = c :: s) : False := by
  obtain ⟨_, ⟨d, s1, rfl, hd⟩, _⟩ := name_parts h
  simp only [List.cons_append, List.cons.injEq] at e
  obtain ⟨rfl, _⟩ := e
  have := let_ne hd
  rcases hc with rfl | rfl | rfl
  · exact this.1 rfl
  · exact this.2.1 rfl
  · exact this.2.2.1 rfl
theorem dig_sign_no {r s : List UInt8} {c : UInt8} {n : Nat} (hc : c = 126 ∨ c = 45 ∨ c = 40 ∨ c = 112) (e : Lib.decDigits n ++ r = c :: s) : False := by
  obtain ⟨_, d, s2, e2, hd⟩ := dec_parts n
  rw [e2] at e
  simp only [List.cons_append, List.cons.injEq] at e
  obtain ⟨rfl, _⟩ := e
  have := dig_ne hd
  rcases hc with rfl | rfl | rfl | rfl
  · exact this.1 rfl
  · exact this.2.1 rfl
  · exact this.2.2.1 rfl
  · revert hd; decide
/-- unlike expressions have unlike texts, whatever stands behind them -/
theorem Ex.cut : ∀ (n : Nat) (x y : Ex) (r s : List UInt8), x.size < n → x.may = true → y.may = true → Stop r → Stop s → x.text ++ r = y.text ++ s → x = y ∧ r = s
  | 0, _, _, _, _, h, _, _, _, _, _ => absurd h (Nat.not_lt_zero _)
  | n + 1, x, y, r, s, hsz, hx, hy, hr, hs, h => by
    have ih := Ex.cut n
    have Hx := Ex.shape hx
    have Hy := Ex.shape hy
    clear hx hy
    generalize x.text = t at *
    generalize y.text = u at *
    cases Hx with
    | const wd =>
      cases Hy with
      | const wd' =>
        obtain ⟨hE, hF⟩ := dec_cut hr.brk hs.brk h; clear h; subst hE; have h := hF; clear hF
        exact ⟨rfl, h⟩
      | var nm hn => exact (let_dig_no hn h.symm).elim
      | index nm hn y hy => rw [List.append_assoc] at h; exact (let_dig_no hn h.symm).elim
      | not y hy => exact (dig_sign_no (.inl rfl) h).elim
      | neg y hy => exact (dig_sign_no (.inr (.inl rfl)) h).elim
      | pick x y z hx hy hz => exact (dig_sign_no (.inr (.inr (.inr rfl))) h).elim
      | two op h1 h2 x y hx hy => exact (dig_sign_no (.inr (.inr (.inl rfl))) h).elim
    | var nm hn =>
      cases Hy with
      | const wd' => exact (let_dig_no hn h).elim
      | var nm' hn' =>
        obtain ⟨hE, hF⟩ := word_cut _ _ _ _ (name_parts hn).1 (name_parts hn').1 hr.brk hs.brk h; clear h; subst hE; have h := hF; clear hF
        exact ⟨rfl, h⟩
      | index nm' hn' y hy =>
        rw [List.append_assoc] at h
        obtain ⟨hE, hF⟩ := word_cut _ _ _ _ (name_parts hn).1 (name_parts hn').1 hr.brk (b91 _) h; clear h; subst hE; have h := hF; clear hF
        exact absurd rfl (hr _ _ h).2.1
      | not y hy => exact (let_sign_no hn (.inl rfl) h).elim
      | neg y hy => exact (let_sign_no hn (.inr (.inl rfl)) h).elim
      | pick x y z hx hy hz =>
        rw [List.append_assoc] at h
        exact (not_pick hn (word_cut _ _ _ _ (name_parts hn).1 pick_parts hr.brk (b40 _) h).1).elim
      | two op h1 h2 x y hx hy => exact (let_sign_no hn (.inr (.inr rfl)) h).elim
    | index nm hn x hx =>
      rw [List.append_assoc] at h
      cases Hy with
      | const wd' => exact (let_dig_no hn h).elim
      | var nm' hn' =>
        obtain ⟨hE, hF⟩ := word_cut _ _ _ _ (name_parts hn).1 (name_parts hn').1 (b91 _) hs.brk h; clear h; subst hE; have h := hF; clear hF
        exact absurd rfl (hs _ _ h.symm).2.1
      | index nm' hn' y hy =>
        simp only [List.cons_append, List.append_assoc, List.nil_append] at h
        obtain ⟨hE, hF⟩ := word_cut _ _ _ _ (name_parts hn).1 (name_parts hn').1 (b91 _) (b91 _) h; clear h; subst hE; have h := hF; clear hF
        simp only [List.cons.injEq, true_and] at h
        obtain ⟨hE, hF⟩ := ih x y _ _ (by simp only [Ex.size, Exs.size] at hsz; omega) hx hy (s93 _) (s93 _) h; clear h; subst hE; have h := hF; clear hF
        simp only [List.cons.injEq, true_and] at h
        exact ⟨rfl, h⟩
      | not y hy => exact (let_sign_no hn (.inl rfl) h).elim
      | neg y hy => exact (let_sign_no hn (.inr (.inl rfl)) h).elim
      | pick x y z hx hy hz =>
        rw [List.append_assoc] at h
        exact (not_pick hn (word_cut _ _ _ _ (name_parts hn).1 pick_parts (b91 _) (b40 _) h).1).elim
      | two op h1 h2 x y hx hy => exact (let_sign_no hn (.inr (.inr rfl)) h).elim
    | not x hx =>
      cases Hy with
      | const wd' => exact (dig_sign_no (.inl rfl) h.symm).elim
      | var nm' hn' => exact (let_sign_no hn' (.inl rfl) h.symm).elim
      | index nm' hn' y hy => rw [List.append_assoc] at h; exact (let_sign_no hn' (.inl rfl) h.symm).elim
      | not y hy =>
        simp only [List.cons_append, List.cons.injEq, true_and] at h
        obtain ⟨hE, hF⟩ := ih x y _ _ (by simp only [Ex.size, Exs.size] at hsz; omega) hx hy hr hs h; clear h; subst hE; have h := hF; clear hF
        exact ⟨rfl, h⟩
      | neg y hy => simp at h
      | pick x y z hx hy hz => simp at h
      | two op h1 h2 x y hx hy => simp at h
    | neg x hx =>
      cases Hy with
      | const wd' => exact (dig_sign_no (.inr (.inl rfl)) h.symm).elim
      | var nm' hn' => exact (let_sign_no hn' (.inr (.inl rfl)) h.symm).elim
      | index nm' hn' y hy => rw [List.append_assoc] at h; exact (let_sign_no hn' (.inr (.inl rfl)) h.symm).elim
      | not y hy => simp at h
      | neg y hy =>
        simp only [List.cons_append, List.cons.injEq, true_and] at h
        obtain ⟨hE, hF⟩ := ih x y _ _ (by simp only [Ex.size, Exs.size] at hsz; omega) hx hy hr hs h; clear h; subst hE; have h := hF; clear hF
        exact ⟨rfl, h⟩
      | pick x y z hx hy hz => simp at h
      | two op h1 h2 x y hx hy => simp at h
    | pick x1 x2 x3 hx1 hx2 hx3 =>
      cases Hy with
      | const wd' => exact (dig_sign_no (.inr (.inr (.inr rfl))) h.symm).elim
      | var nm' hn' =>
        rw [List.append_assoc] at h
        exact (not_pick hn' (word_cut _ _ _ _ pick_parts (name_parts hn').1 (b40 _) hs.brk h).1.symm).elim
      | index nm' hn' y hy =>
        rw [List.append_assoc, List.append_assoc] at h
        exact (not_pick hn' (word_cut _ _ _ _ pick_parts (name_parts hn').1 (b40 _) (b91 _) h).1.symm).elim
      | not y hy => simp at h
      | neg y hy => simp at h
      | pick y1 y2 y3 hy1 hy2 hy3 =>
        rw [List.append_assoc, List.append_assoc] at h
        simp only [List.cons_append, List.append_assoc, List.nil_append] at h
        simp only [List.cons.injEq, true_and] at h
        obtain ⟨hE, hF⟩ := ih x1 y1 _ _ (by simp only [Ex.size, Exs.size] at hsz; omega) hx1 hy1 (s44 _) (s44 _) h; clear h; subst hE; have h := hF; clear hF
        simp only [List.cons.injEq, true_and] at h
        obtain ⟨hE, hF⟩ := ih x2 y2 _ _ (by simp only [Ex.size, Exs.size] at hsz; omega) hx2 hy2 (s44 _) (s44 _) h; clear h; subst hE; have h := hF; clear hF
        simp only [List.cons.injEq, true_and] at h
        obtain ⟨hE, hF⟩ := ih x3 y3 _ _ (by simp only [Ex.size, Exs.size] at hsz; omega) hx3 hy3 (s41 _) (s41 _) h; clear h; subst hE; have h := hF; clear hF
        simp only [List.cons.injEq, true_and] at h
        exact ⟨rfl, h⟩
      | two op h1 h2 x y hx hy => simp at h
    | two op h1 h2 x1 x2 hx1 hx2 =>
      cases Hy with
      | const wd' => exact (dig_sign_no (.inr (.inr (.inl rfl))) h.symm).elim
      | var nm' hn' => exact (let_sign_no hn' (.inr (.inr rfl)) h.symm).elim
      | index nm' hn' y hy => rw [List.append_assoc] at h; exact (let_sign_no hn' (.inr (.inr rfl)) h.symm).elim
      | not y hy => simp at h
      | neg y hy => simp at h
      | pick y1 y2 y3 hy1 hy2 hy3 => simp at h
      | two op' h1' h2' y1 y2 hy1 hy2 =>
        simp only [List.cons_append, List.cons.injEq, true_and, List.append_assoc, List.nil_append] at h
        obtain ⟨hE, hF⟩ := ih x1 y1 _ _ (by simp only [Ex.size, Exs.size] at hsz; omega) hx1 hy1 (s32 _) (s32 _) h; clear h; subst hE; have h := hF; clear hF
        simp only [List.cons.injEq, true_and] at h
        obtain ⟨hE, hF⟩ := sign_cut h1 h2 h1' h2' h; clear h; subst hE; have h := hF; clear hF
        obtain ⟨hE, hF⟩ := ih x2 y2 _ _ (by simp only [Ex.size, Exs.size] at hsz; omega) hx2 hy2 (s41 _) (s41 _) h; clear h; subst hE; have h := hF; clear hF
        simp only [List.cons.injEq, true_and] at h
        exact ⟨rfl, h⟩
theorem ex_cut {x y : Ex} {r s : List UInt8} (hx : x.may = true) (hy : y.may = true) (hr : Stop r) (hs : Stop s) (h : x.text ++ r = y.text ++ s) : x = y ∧ r = s :=
  Ex.cut _ x y r s (Nat.lt_succ_self _) hx hy hr hs h
end Go.Proofs.YtlhbledakddbbaaGreatDoor
/- Unlike programs that can be told have unlike lines and unlike texts. -/
namespace Go.Proofs.YtlhbledakddbbaaGreatDoor
open Go.RowKit

theorem joinTail_cons (x : List UInt8) (r : List (List UInt8)) : Lib.joinTail [44, 32] (x :: r) = 44 :: 32 :: (x ++ Lib.joinTail [44, 32] r) := by simp [Lib.joinTail]
theorem joinTail_nil : Lib.joinTail [44, 32] [] = [] := rfl
theorem tail_stop (ts : List (List UInt8)) {c : UInt8} (s : List UInt8) (h : Stop (c :: s)) : Stop (Lib.joinTail [44, 32] ts ++ c :: s) := by
  cases ts with
  | nil => exact h
  | cons x r => rw [joinTail_cons]; exact s44 _
theorem argsTail_cut : ∀ (a b : Exs) (r s : List UInt8), a.may = true → b.may = true → Lib.joinTail [44, 32] a.texts ++ 41 :: r = Lib.joinTail [44, 32] b.texts ++ 41 :: s → a = b ∧ r = s
  | .nil, .nil, r, s, _, _, h => by simp only [Exs.texts, joinTail_nil, List.nil_append, List.cons.injEq, true_and] at h; exact ⟨rfl, h⟩
  | .nil, .cons y b, r, s, _, _, h => by simp [Exs.texts, joinTail_nil, joinTail_cons] at h
  | .cons x a, .nil, r, s, _, _, h => by simp [Exs.texts, joinTail_nil, joinTail_cons] at h
  | .cons x a, .cons y b, r, s, ha, hb, h => by
    simp only [Exs.texts, joinTail_cons, List.cons_append, List.append_assoc, List.cons.injEq, true_and] at h
    rw [Exs.may, Bool.and_eq_true] at ha hb
    obtain ⟨h1, h2⟩ := ex_cut ha.1 hb.1 (tail_stop _ _ (s41 _)) (tail_stop _ _ (s41 _)) h
    obtain ⟨h3, h4⟩ := argsTail_cut a b r s ha.2 hb.2 h2
    exact ⟨by rw [h1, h3], h4⟩
theorem args_cut {a b : Exs} {r s : List UInt8} (ha : a.may = true) (hb : b.may = true) (h : Lib.join a.texts [44, 32] ++ 41 :: r = Lib.join b.texts [44, 32] ++ 41 :: s) : a = b ∧ r = s := by
  cases a with
  | nil =>
    cases b with
    | nil => simp only [Exs.texts, Lib.join_nil, List.nil_append, List.cons.injEq, true_and] at h; exact ⟨rfl, h⟩
    | cons y b =>
      rw [Exs.may, Bool.and_eq_true] at hb
      obtain ⟨c, t, e, hc, _⟩ := (Ex.shape hb.1).head
      simp only [Exs.texts, Lib.join_nil, Lib.join_cons, e, List.nil_append, List.cons_append, List.cons.injEq] at h
      exact absurd h.1.symm hc
  | cons x a =>
    rw [Exs.may, Bool.and_eq_true] at ha
    cases b with
    | nil =>
      obtain ⟨c, t, e, hc, _⟩ := (Ex.shape ha.1).head
      simp only [Exs.texts, Lib.join_nil, Lib.join_cons, e, List.nil_append, List.cons_append, List.cons.injEq] at h
      exact absurd h.1 hc
    | cons y b =>
      rw [Exs.may, Bool.and_eq_true] at hb
      simp only [Exs.texts, Lib.join_cons, List.append_assoc] at h
      obtain ⟨h1, h2⟩ := ex_cut ha.1 hb.1 (tail_stop _ _ (s41 _)) (tail_stop _ _ (s41 _)) h
      obtain ⟨h3, h4⟩ := argsTail_cut a b r s ha.2 hb.2 h2
      exact ⟨by rw [h1, h3], h4⟩
theorem tail_brk (ts : List (List UInt8)) {c : UInt8} (s : List UInt8) (h : isPart c = false) : Brk (Lib.joinTail [44, 32] ts ++ c :: s) := by
  cases ts with
  | nil => exact brk_of _ h
  | cons x r => rw [joinTail_cons]; exact b44 _
theorem names_cut : ∀ (a b : List (List UInt8)) (r s : List UInt8), namesB a = true → namesB b = true → Lib.joinTail [44, 32] a ++ 32 :: r = Lib.joinTail [44, 32] b ++ 32 :: s → a = b ∧ r = s
  | [], [], r, s, _, _, h => by simp only [joinTail_nil, List.nil_append, List.cons.injEq, true_and] at h; exact ⟨rfl, h⟩
  | [], y :: b, r, s, _, _, h => by simp [joinTail_nil, joinTail_cons] at h
  | x :: a, [], r, s, _, _, h => by simp [joinTail_nil, joinTail_cons] at h
  | x :: a, y :: b, r, s, ha, hb, h => by
    simp only [joinTail_cons, List.cons_append, List.append_assoc, List.cons.injEq, true_and] at h
    simp only [namesB, List.all_cons, Bool.and_eq_true] at ha hb
    obtain ⟨h1, h2⟩ := word_cut _ _ _ _ (name_parts ha.1).1 (name_parts hb.1).1 (tail_brk _ _ (by decide)) (tail_brk _ _ (by decide)) h
    obtain ⟨h3, h4⟩ := names_cut a b r s ha.2 hb.2 h2
    exact ⟨by rw [h1, h3], h4⟩

/-- the forms of statements that can be told, and their first lines -/
inductive ShS : St → List UInt8 → Prop where
  | set (nm : List UInt8) (hn : nameB nm = true) (e : Ex) (he : e.may = true) : ShS (.mk 1 nm [] e E0 .nil 0 0 .nil .nil) (nm ++ 32 :: 61 :: 32 :: (e.text ++ [59]))
  | put (nm : List UInt8) (hn : nameB nm = true) (a : Ex) (ha : a.may = true) (e : Ex) (he : e.may = true) : ShS (.mk 2 nm [] e a .nil 0 0 .nil .nil) (nm ++ 91 :: (a.text ++ 93 :: 32 :: 61 :: 32 :: (e.text ++ [59])))
  | ifs (e : Ex) (he : e.may = true) (bd el : Sts) (hb : bd.may = true) (hl : el.may = true) : ShS (.mk 3 [] [] e E0 .nil 0 0 bd el) ([105, 102] ++ 32 :: (e.text ++ [32, 123]))
  | whl (e : Ex) (he : e.may = true) (bd : Sts) (hb : bd.may = true) : ShS (.mk 4 [] [] e E0 .nil 0 0 bd .nil) ([119, 104, 105, 108, 101] ++ 32 :: (e.text ++ [32, 123]))
  | for (nm : List UInt8) (hn : nameB nm = true) (lo hi : Nat) (bd : Sts) (hb : bd.may = true) : ShS (.mk 5 nm [] E0 E0 .nil lo hi bd .nil) ([102, 111, 114] ++ 32 :: (nm ++ 32 :: (Lib.decDigits lo ++ 32 :: (Lib.decDigits hi ++ [32, 123]))))
  | call (nm : List UInt8) (hn : nameB nm = true) (g : Exs) (hg : g.may = true) : ShS (.mk 6 nm [] E0 E0 g 0 0 .nil .nil) (nm ++ 40 :: (Lib.join g.texts [44, 32] ++ 41 :: [59]))
  | calls (n0 : List UInt8) (h0 : nameB n0 = true) (ns : List (List UInt8)) (hs : namesB ns = true) (nm : List UInt8) (hn : nameB nm = true) (g : Exs) (hg : g.may = true) :
    ShS (.mk 6 nm (n0 :: ns) E0 E0 g 0 0 .nil .nil) (n0 ++ (Lib.joinTail [44, 32] ns ++ 32 :: 61 :: 32 :: (nm ++ 40 :: (Lib.join g.texts [44, 32] ++ 41 :: [59]))))
theorem none_E0 {x : Ex} (h : x.none = true) : x = E0 := by
  obtain ⟨op, wd, nm, ar⟩ := x
  unfold Ex.none at h
  rw [Bool.and_eq_true, Bool.and_eq_true, Bool.and_eq_true] at h
  obtain ⟨h1, h2, h3, h4⟩ := h
  have k1 : op = 0 := of_decide_eq_true h1
  have k2 : wd = 0 := of_decide_eq_true h2
  have k4 : ar.len = 0 := of_decide_eq_true h4
  have k3 : nm = [] := empty_nil h3
  rw [k1, k2, k3, Exs.len_zero k4]; rfl
theorem Sts.len_zero {a : Sts} (h : a.len = 0) : a = .nil := by cases a with | nil => rfl | cons => simp [Sts.len] at h
theorem St.shape {x : St} (h : x.may = true) : ShS x x.first := by
  obtain ⟨kd, nm, ns, e, a, g, lo, hi, bd, el⟩ := x
  have hno : kd < 1 ∨ 6 < kd ∨ kd = 1 ∨ kd = 2 ∨ kd = 3 ∨ kd = 4 ∨ kd = 5 ∨ kd = 6 := by omega
  rcases hno with k | k | rfl | rfl | rfl | rfl | rfl | rfl
  · rw [st_may_no kd (.inl k)] at h; cases h
  · rw [st_may_no kd (.inr k)] at h; cases h
  · rw [st_may_1] at h
    simp only [Bool.and_eq_true, St.isZero, decide_eq_true_eq] at h
    obtain ⟨⟨hn, he⟩, _, _, h3, _, h5, h6, h7, h8, h9, h10⟩ := h
    obtain rfl := List.length_eq_zero_iff.1 h3
    obtain rfl := none_E0 h5
    obtain rfl := Exs.len_zero h6
    subst h7; subst h8
    obtain rfl := Sts.len_zero h9
    obtain rfl := Sts.len_zero h10
    rw [show (St.mk 1 nm [] e E0 .nil 0 0 .nil .nil).first = nm ++ 32 :: 61 :: 32 :: (e.text ++ [59]) by rw [← first_eq, firstT, if_pos rfl]; simp]
    exact ShS.set nm hn e he
  · rw [st_may_2] at h
    simp only [Bool.and_eq_true, St.isZero, decide_eq_true_eq] at h
    obtain ⟨⟨hn, ha, he⟩, _, _, h3, _, _, h6, h7, h8, h9, h10⟩ := h
    obtain rfl := List.length_eq_zero_iff.1 h3
    obtain rfl := Exs.len_zero h6
    subst h7; subst h8
    obtain rfl := Sts.len_zero h9
    obtain rfl := Sts.len_zero h10
    rw [show (St.mk 2 nm [] e a .nil 0 0 .nil .nil).first = nm ++ 91 :: (a.text ++ 93 :: 32 :: 61 :: 32 :: (e.text ++ [59])) by rw [← first_eq, firstT, if_neg (by decide), if_pos rfl]; simp]
    exact ShS.put nm hn a ha e he
  · rw [st_may_3] at h
    simp only [Bool.and_eq_true, St.isZero, decide_eq_true_eq] at h
    obtain ⟨⟨he, hb, hl⟩, _, h2, h3, _, h5, h6, h7, h8, _⟩ := h
    obtain rfl := empty_nil h2
    obtain rfl := List.length_eq_zero_iff.1 h3
    obtain rfl := none_E0 h5
    obtain rfl := Exs.len_zero h6
    subst h7; subst h8
    rw [show (St.mk 3 [] [] e E0 .nil 0 0 bd el).first = [105, 102] ++ 32 :: (e.text ++ [32, 123]) by rw [← first_eq, firstT, if_neg (by decide), if_neg (by decide), if_pos rfl]; simp]
    exact ShS.ifs e he bd el hb hl
  · rw [st_may_4] at h
    simp only [Bool.and_eq_true, St.isZero, decide_eq_true_eq] at h
    obtain ⟨⟨he, hb⟩, _, h2, h3, _, h5, h6, h7, h8, _, h10⟩ := h
    obtain rfl := empty_nil h2
    obtain rfl := List.length_eq_zero_iff.1 h3
    obtain rfl := none_E0 h5
    obtain rfl := Exs.len_zero h6
    subst h7; subst h8
    obtain rfl := Sts.len_zero h10
    rw [show (St.mk 4 [] [] e E0 .nil 0 0 bd .nil).first = [119, 104, 105, 108, 101] ++ 32 :: (e.text ++ [32, 123]) by rw [← first_eq, firstT, if_neg (by decide), if_neg (by decide), if_neg (by decide), if_pos rfl]; simp]
    exact ShS.whl e he bd hb
  · rw [st_may_5] at h
    simp only [Bool.and_eq_true, St.isZero, decide_eq_true_eq] at h
    obtain ⟨⟨hn, hb⟩, _, _, h3, h4, h5, h6, _, _, _, h10⟩ := h
    obtain rfl := List.length_eq_zero_iff.1 h3
    obtain rfl := none_E0 h4
    obtain rfl := none_E0 h5
    obtain rfl := Exs.len_zero h6
    obtain rfl := Sts.len_zero h10
    rw [show (St.mk 5 nm [] E0 E0 .nil lo hi bd .nil).first = [102, 111, 114] ++ 32 :: (nm ++ 32 :: (Lib.decDigits lo ++ 32 :: (Lib.decDigits hi ++ [32, 123]))) by rw [← first_eq, firstT, if_neg (by decide), if_neg (by decide), if_neg (by decide), if_neg (by decide), if_pos rfl]; simp]
    exact ShS.for nm hn lo hi bd hb
  · rw [st_may_6] at h
    simp only [Bool.and_eq_true, St.isZero, decide_eq_true_eq] at h
    obtain ⟨⟨hn, hs, hg⟩, _, _, _, h4, h5, _, h7, h8, h9, h10⟩ := h
    obtain rfl := none_E0 h4
    obtain rfl := none_E0 h5
    subst h7; subst h8
    obtain rfl := Sts.len_zero h9
    obtain rfl := Sts.len_zero h10
    cases ns with
    | nil =>
      rw [show (St.mk 6 nm [] E0 E0 g 0 0 .nil .nil).first = nm ++ 40 :: (Lib.join g.texts [44, 32] ++ 41 :: [59]) by
        rw [← first_eq, firstT, if_neg (by decide), if_neg (by decide), if_neg (by decide), if_neg (by decide), if_neg (by decide), if_pos (show ([] : List (List UInt8)).length = 0 from rfl)]; simp]
      exact ShS.call nm hn g hg
    | cons n0 ns =>
      simp only [namesB, List.all_cons, Bool.and_eq_true] at hs
      rw [show (St.mk 6 nm (n0 :: ns) E0 E0 g 0 0 .nil .nil).first = n0 ++ (Lib.joinTail [44, 32] ns ++ 32 :: 61 :: 32 :: (nm ++ 40 :: (Lib.join g.texts [44, 32] ++ 41 :: [59]))) by
        rw [← first_eq, firstT, if_neg (by decide), if_neg (by decide), if_neg (by decide), if_neg (by decide), if_neg (by decide), if_neg (by simp), Lib.join_cons]; simp]
      exact ShS.calls n0 hs.1 ns hs.2 nm hn g hg
/-- a line's first word, and what stands behind it -/
def Word0 (w t : List UInt8) : Prop := ∃ r, t = w ++ r ∧ w.all isPart = true ∧ Brk r
theorem Word0.uniq {w v t : List UInt8} (h : Word0 w t) (k : Word0 v t) : w = v := by
  obtain ⟨r, rfl, hw, hr⟩ := h
  obtain ⟨s, e, hv, hs⟩ := k
  exact (word_cut _ _ _ _ hw hv hr hs e).1
def kwB (w : List UInt8) : Bool := decide (w = [105, 102]) || (decide (w = [119, 104, 105, 108, 101]) || decide (w = [102, 111, 114]))
theorem ShS.word {x : St} {t : List UInt8} (h : ShS x t) : ∃ w, Word0 w t ∧ (nameB w = true ∨ kwB w = true) := by
  cases h with
  | set nm hn e he => exact ⟨nm, ⟨_, rfl, (name_parts hn).1, b32 _⟩, .inl hn⟩
  | put nm hn a ha e he => exact ⟨nm, ⟨_, rfl, (name_parts hn).1, b91 _⟩, .inl hn⟩
  | ifs e he bd el hb hl => exact ⟨_, ⟨_, rfl, by decide, b32 _⟩, .inr (by decide)⟩
  | whl e he bd hb => exact ⟨_, ⟨_, rfl, by decide, b32 _⟩, .inr (by decide)⟩
  | «for» nm hn lo hi bd hb => exact ⟨_, ⟨_, rfl, by decide, b32 _⟩, .inr (by decide)⟩
  | call nm hn g hg => exact ⟨nm, ⟨_, rfl, (name_parts hn).1, b40 _⟩, .inl hn⟩
  | calls n0 h0 ns hs nm hn g hg => exact ⟨n0, ⟨_, rfl, (name_parts h0).1, tail_brk _ _ (by decide)⟩, .inl h0⟩
theorem own_not {nm : List UInt8} (h : nameB nm = true) {w : List UInt8} (hw : ownB w = true) (e : nm = w) : False := by
  have := (name_parts h).2.2; rw [e, hw] at this; cases this
/-- what two statements have alike whose first lines are one -/
def Alike (x y : St) : Prop := x.kind = y.kind ∧ x.name = y.name ∧ x.names = y.names ∧ x.e = y.e ∧ x.a = y.a ∧ x.args = y.args ∧ x.low = y.low ∧ x.high = y.high
theorem set_calls {_e g0 : List UInt8} {x : Ex} (hx : x.may = true) {nm : List UInt8} (hn : nameB nm = true) (h : x.text ++ [59] = nm ++ 40 :: g0) : False := by
  have H := Ex.shape hx
  clear hx
  generalize x.text = t at *
  cases H with
  | const wd => exact let_dig_no hn h.symm
  | var nm' hn' =>
    obtain ⟨_, h2⟩ := word_cut _ _ _ _ (name_parts hn').1 (name_parts hn).1 (s59 []).brk (b40 _) h
    simp at h2
  | index nm' hn' y hy =>
    rw [List.append_assoc] at h
    obtain ⟨_, h2⟩ := word_cut _ _ _ _ (name_parts hn').1 (name_parts hn).1 (b91 _) (b40 _) h
    simp at h2
  | not y hy => exact let_sign_no hn (.inl rfl) h.symm
  | neg y hy => exact let_sign_no hn (.inr (.inl rfl)) h.symm
  | pick x y z hx hy hz =>
    rw [List.append_assoc] at h
    exact not_pick hn (word_cut _ _ _ _ pick_parts (name_parts hn).1 (b40 _) (b40 _) h).1.symm
  | two op h1 h2 x y hx hy => exact let_sign_no hn (.inr (.inr rfl)) h.symm
theorem b93 (r : List UInt8) : Brk (93 :: r) := brk_of r (by decide)
theorem ifP : ([105, 102] : List UInt8).all isPart = true := by decide
theorem whP : ([119, 104, 105, 108, 101] : List UInt8).all isPart = true := by decide
theorem foP : ([102, 111, 114] : List UInt8).all isPart = true := by decide
theorem ifO : ownB [105, 102] = true := by decide
theorem whO : ownB [119, 104, 105, 108, 101] = true := by decide
theorem foO : ownB [102, 111, 114] = true := by decide
theorem shs_alike {x y : St} {t u : List UInt8} (hx : ShS x t) (hy : ShS y u) (h : t = u) : Alike x y := by
  cases hx with
  | set nm hn e he =>
    cases hy with
    | set nm' hn' e' he' =>
      obtain ⟨h1, h2⟩ := word_cut _ _ _ _ (name_parts hn).1 (name_parts hn').1 (b32 _) (b32 _) h
      simp only [List.cons.injEq, true_and] at h2
      obtain ⟨h3, _⟩ := ex_cut he he' (s59 _) (s59 _) h2
      exact ⟨rfl, h1, rfl, h3, rfl, rfl, rfl, rfl⟩
    | put nm' hn' a' ha' e' he' => have := (word_cut _ _ _ _ (name_parts hn).1 (name_parts hn').1 (b32 _) (b91 _) h).2; simp at this
    | ifs e' he' bd' el' hb' hl' => exact (own_not hn ifO (word_cut _ _ _ _ (name_parts hn).1 ifP (b32 _) (b32 _) h).1).elim
    | whl e' he' bd' hb' => exact (own_not hn whO (word_cut _ _ _ _ (name_parts hn).1 whP (b32 _) (b32 _) h).1).elim
    | «for» nm' hn' lo' hi' bd' hb' => exact (own_not hn foO (word_cut _ _ _ _ (name_parts hn).1 foP (b32 _) (b32 _) h).1).elim
    | call nm' hn' g' hg' => have := (word_cut _ _ _ _ (name_parts hn).1 (name_parts hn').1 (b32 _) (b40 _) h).2; simp at this
    | calls n0 h0 ns hs nm' hn' g' hg' =>
      have h2 := (word_cut _ _ _ _ (name_parts hn).1 (name_parts h0).1 (b32 _) (tail_brk _ _ (by decide)) h).2
      cases ns with
      | nil =>
        simp only [joinTail_nil, List.nil_append, List.cons.injEq, true_and] at h2
        exact (set_calls (_e := []) he hn' h2).elim
      | cons n1 ns => simp [joinTail_cons] at h2
  | put nm hn a ha e he =>
    cases hy with
    | set nm' hn' e' he' => have := (word_cut _ _ _ _ (name_parts hn).1 (name_parts hn').1 (b91 _) (b32 _) h).2; simp at this
    | put nm' hn' a' ha' e' he' =>
      obtain ⟨h1, h2⟩ := word_cut _ _ _ _ (name_parts hn).1 (name_parts hn').1 (b91 _) (b91 _) h
      simp only [List.cons.injEq, true_and] at h2
      obtain ⟨h3, h4⟩ := ex_cut ha ha' (s93 _) (s93 _) h2
      simp only [List.cons.injEq, true_and] at h4
      obtain ⟨h5, _⟩ := ex_cut he he' (s59 _) (s59 _) h4
      exact ⟨rfl, h1, rfl, h5, h3, rfl, rfl, rfl⟩
    | ifs e' he' bd' el' hb' hl' => exact (own_not hn ifO (word_cut _ _ _ _ (name_parts hn).1 ifP (b91 _) (b32 _) h).1).elim
    | whl e' he' bd' hb' => exact (own_not hn whO (word_cut _ _ _ _ (name_parts hn).1 whP (b91 _) (b32 _) h).1).elim
    | «for» nm' hn' lo' hi' bd' hb' => exact (own_not hn foO (word_cut _ _ _ _ (name_parts hn).1 foP (b91 _) (b32 _) h).1).elim
    | call nm' hn' g' hg' => have := (word_cut _ _ _ _ (name_parts hn).1 (name_parts hn').1 (b91 _) (b40 _) h).2; simp at this
    | calls n0 h0 ns hs nm' hn' g' hg' =>
      have h2 := (word_cut _ _ _ _ (name_parts hn).1 (name_parts h0).1 (b91 _) (tail_brk _ _ (by decide)) h).2
      cases ns with
      | nil => simp [joinTail_nil] at h2
      | cons n1 ns => simp [joinTail_cons] at h2
  | ifs e he bd el hb hl =>
    cases hy with
    | set nm' hn' e' he' => exact (own_not hn' ifO (word_cut _ _ _ _ ifP (name_parts hn').1 (b32 _) (b32 _) h).1.symm).elim
    | put nm' hn' a' ha' e' he' => exact (own_not hn' ifO (word_cut _ _ _ _ ifP (name_parts hn').1 (b32 _) (b91 _) h).1.symm).elim
    | ifs e' he' bd' el' hb' hl' =>
      simp only [List.cons_append, List.nil_append, List.cons.injEq, true_and] at h
      obtain ⟨h3, _⟩ := ex_cut he he' (s32 _) (s32 _) h
      exact ⟨rfl, rfl, rfl, h3, rfl, rfl, rfl, rfl⟩
    | whl e' he' bd' hb' => simp at h
    | «for» nm' hn' lo' hi' bd' hb' => simp at h
    | call nm' hn' g' hg' => exact (own_not hn' ifO (word_cut _ _ _ _ ifP (name_parts hn').1 (b32 _) (b40 _) h).1.symm).elim
    | calls n0 h0 ns hs nm' hn' g' hg' => exact (own_not h0 ifO (word_cut _ _ _ _ ifP (name_parts h0).1 (b32 _) (tail_brk _ _ (by decide)) h).1.symm).elim
  | whl e he bd hb =>
    cases hy with
    | set nm' hn' e' he' => exact (own_not hn' whO (word_cut _ _ _ _ whP (name_parts hn').1 (b32 _) (b32 _) h).1.symm).elim
    | put nm' hn' a' ha' e' he' => exact (own_not hn' whO (word_cut _ _ _ _ whP (name_parts hn').1 (b32 _) (b91 _) h).1.symm).elim
    | ifs e' he' bd' el' hb' hl' => simp at h
    | whl e' he' bd' hb' =>
      simp only [List.cons_append, List.nil_append, List.cons.injEq, true_and] at h
      obtain ⟨h3, _⟩ := ex_cut he he' (s32 _) (s32 _) h
      exact ⟨rfl, rfl, rfl, h3, rfl, rfl, rfl, rfl⟩
    | «for» nm' hn' lo' hi' bd' hb' => simp at h
    | call nm' hn' g' hg' => exact (own_not hn' whO (word_cut _ _ _ _ whP (name_parts hn').1 (b32 _) (b40 _) h).1.symm).elim
    | calls n0 h0 ns hs nm' hn' g' hg' => exact (own_not h0 whO (word_cut _ _ _ _ whP (name_parts h0).1 (b32 _) (tail_brk _ _ (by decide)) h).1.symm).elim
  | «for» nm hn lo hi bd hb =>
    cases hy with
    | set nm' hn' e' he' => exact (own_not hn' foO (word_cut _ _ _ _ foP (name_parts hn').1 (b32 _) (b32 _) h).1.symm).elim
    | put nm' hn' a' ha' e' he' => exact (own_not hn' foO (word_cut _ _ _ _ foP (name_parts hn').1 (b32 _) (b91 _) h).1.symm).elim
    | ifs e' he' bd' el' hb' hl' => simp at h
    | whl e' he' bd' hb' => simp at h
    | «for» nm' hn' lo' hi' bd' hb' =>
      simp only [List.cons_append, List.nil_append, List.cons.injEq, true_and] at h
      obtain ⟨h1, h2⟩ := word_cut _ _ _ _ (name_parts hn).1 (name_parts hn').1 (b32 _) (b32 _) h
      simp only [List.cons.injEq, true_and] at h2
      obtain ⟨h3, h4⟩ := dec_cut (b32 _) (b32 _) h2
      simp only [List.cons.injEq, true_and] at h4
      obtain ⟨h5, _⟩ := dec_cut (b32 _) (b32 _) h4
      exact ⟨rfl, h1, rfl, rfl, rfl, rfl, h3, h5⟩
    | call nm' hn' g' hg' => exact (own_not hn' foO (word_cut _ _ _ _ foP (name_parts hn').1 (b32 _) (b40 _) h).1.symm).elim
    | calls n0 h0 ns hs nm' hn' g' hg' => exact (own_not h0 foO (word_cut _ _ _ _ foP (name_parts h0).1 (b32 _) (tail_brk _ _ (by decide)) h).1.symm).elim
  | call nm hn g hg =>
    cases hy with
    | set nm' hn' e' he' => have := (word_cut _ _ _ _ (name_parts hn).1 (name_parts hn').1 (b40 _) (b32 _) h).2; simp at this
    | put nm' hn' a' ha' e' he' => have := (word_cut _ _ _ _ (name_parts hn).1 (name_parts hn').1 (b40 _) (b91 _) h).2; simp at this
    | ifs e' he' bd' el' hb' hl' => exact (own_not hn ifO (word_cut _ _ _ _ (name_parts hn).1 ifP (b40 _) (b32 _) h).1).elim
    | whl e' he' bd' hb' => exact (own_not hn whO (word_cut _ _ _ _ (name_parts hn).1 whP (b40 _) (b32 _) h).1).elim
    | «for» nm' hn' lo' hi' bd' hb' => exact (own_not hn foO (word_cut _ _ _ _ (name_parts hn).1 foP (b40 _) (b32 _) h).1).elim
    | call nm' hn' g' hg' =>
      obtain ⟨h1, h2⟩ := word_cut _ _ _ _ (name_parts hn).1 (name_parts hn').1 (b40 _) (b40 _) h
      simp only [List.cons.injEq, true_and] at h2
      obtain ⟨h3, _⟩ := args_cut hg hg' h2
      exact ⟨rfl, h1, rfl, rfl, rfl, h3, rfl, rfl⟩
    | calls n0 h0 ns hs nm' hn' g' hg' =>
      have h2 := (word_cut _ _ _ _ (name_parts hn).1 (name_parts h0).1 (b40 _) (tail_brk _ _ (by decide)) h).2
      cases ns with
      | nil => simp [joinTail_nil] at h2
      | cons n1 ns => simp [joinTail_cons] at h2
  | calls n0 h0 ns hs nm hn g hg =>
    cases hy with
    | set nm' hn' e' he' =>
      have h2 := (word_cut _ _ _ _ (name_parts h0).1 (name_parts hn').1 (tail_brk _ _ (by decide)) (b32 _) h).2
      cases ns with
      | nil =>
        simp only [joinTail_nil, List.nil_append, List.cons.injEq, true_and] at h2
        exact (set_calls (_e := []) he' hn h2.symm).elim
      | cons n1 ns => simp [joinTail_cons] at h2
    | put nm' hn' a' ha' e' he' =>
      have h2 := (word_cut _ _ _ _ (name_parts h0).1 (name_parts hn').1 (tail_brk _ _ (by decide)) (b91 _) h).2
      cases ns with
      | nil => simp [joinTail_nil] at h2
      | cons n1 ns => simp [joinTail_cons] at h2
    | ifs e' he' bd' el' hb' hl' => exact (own_not h0 ifO (word_cut _ _ _ _ (name_parts h0).1 ifP (tail_brk _ _ (by decide)) (b32 _) h).1).elim
    | whl e' he' bd' hb' => exact (own_not h0 whO (word_cut _ _ _ _ (name_parts h0).1 whP (tail_brk _ _ (by decide)) (b32 _) h).1).elim
    | «for» nm' hn' lo' hi' bd' hb' => exact (own_not h0 foO (word_cut _ _ _ _ (name_parts h0).1 foP (tail_brk _ _ (by decide)) (b32 _) h).1).elim
    | call nm' hn' g' hg' =>
      have h2 := (word_cut _ _ _ _ (name_parts h0).1 (name_parts hn').1 (tail_brk _ _ (by decide)) (b40 _) h).2
      cases ns with
      | nil => simp [joinTail_nil] at h2
      | cons n1 ns => simp [joinTail_cons] at h2
    | calls n0' h0' ns' hs' nm' hn' g' hg' =>
      obtain ⟨h1, h2⟩ := word_cut _ _ _ _ (name_parts h0).1 (name_parts h0').1 (tail_brk _ _ (by decide)) (tail_brk _ _ (by decide)) h
      obtain ⟨h3, h4⟩ := names_cut _ _ _ _ hs hs' h2
      simp only [List.cons.injEq, true_and] at h4
      obtain ⟨h5, h6⟩ := word_cut _ _ _ _ (name_parts hn).1 (name_parts hn').1 (b40 _) (b40 _) h4
      simp only [List.cons.injEq, true_and] at h6
      obtain ⟨h7, _⟩ := args_cut hg hg' h6
      exact ⟨rfl, h5, by simp only [St.names, h1, h3], rfl, rfl, h7, rfl, rfl⟩
theorem first_alike {x y : St} (hx : x.may = true) (hy : y.may = true) (h : x.first = y.first) : Alike x y := shs_alike (St.shape hx) (St.shape hy) h

/-- what stands behind statements begins with a shut brace -/
def Close (r : List (Nat × List UInt8)) : Prop := ∀ y s, r = y :: s → y.2.headD 0 = 125
theorem close_of {y : Nat × List UInt8} (s : List (Nat × List UInt8)) (h : y.2.headD 0 = 125) : Close (y :: s) := fun _ _ e => by cases e; exact h
theorem may_block {kd : Int} {nm : List UInt8} {ns : List (List UInt8)} {e a : Ex} {g : Exs} {lo hi : Nat} {bd el : Sts} (h : (St.mk kd nm ns e a g lo hi bd el).may = true) : bd.may = true ∧ el.may = true ∧ ((kd = 3 ∨ kd = 4 ∨ kd = 5) ∨ (bd = .nil ∧ el = .nil)) := by
  have := St.shape h
  generalize (St.mk kd nm ns e a g lo hi bd el).first = t at *
  cases this with
  | set => exact ⟨rfl, rfl, .inr ⟨rfl, rfl⟩⟩
  | put => exact ⟨rfl, rfl, .inr ⟨rfl, rfl⟩⟩
  | ifs e he bd el hb hl => exact ⟨hb, hl, .inl (.inl rfl)⟩
  | whl e he bd hb => exact ⟨hb, rfl, .inl (.inr (.inl rfl))⟩
  | «for» nm hn lo hi bd hb => exact ⟨hb, rfl, .inl (.inr (.inr rfl))⟩
  | call => exact ⟨rfl, rfl, .inr ⟨rfl, rfl⟩⟩
  | calls => exact ⟨rfl, rfl, .inr ⟨rfl, rfl⟩⟩
theorem Sts.cut : ∀ (n : Nat) (l m : Sts) (t : Nat) (r s : List (Nat × List UInt8)), l.size < n → l.may = true → m.may = true → Close r → Close s → l.lines t ++ r = m.lines t ++ s → l = m ∧ r = s
  | 0, _, _, _, _, _, h, _, _, _, _, _ => absurd h (Nat.not_lt_zero _)
  | n + 1, .nil, .nil, t, r, s, _, _, _, _, _, h => ⟨rfl, h⟩
  | n + 1, .nil, .cons y m, t, r, s, _, _, hm, hr, _, h => by
    rw [Sts.may, Bool.and_eq_true] at hm
    obtain ⟨kd, nm, ns, e, a, g, lo, hi, bd, el⟩ := y
    simp only [Sts.lines, St.lines, List.nil_append, List.cons_append, first_eq] at h
    exact absurd (hr _ _ h) (first_braced hm.1).2.1
  | n + 1, .cons x l, .nil, t, r, s, _, hl, _, _, hs, h => by
    rw [Sts.may, Bool.and_eq_true] at hl
    obtain ⟨kd, nm, ns, e, a, g, lo, hi, bd, el⟩ := x
    simp only [Sts.lines, St.lines, List.nil_append, List.cons_append, first_eq] at h
    exact absurd (hs _ _ h.symm) (first_braced hl.1).2.1
  | n + 1, .cons x l, .cons y m, t, r, s, hsz, hl, hm, hr, hs, h => by
    have ih := Sts.cut n
    rw [Sts.may, Bool.and_eq_true] at hl hm
    obtain ⟨hx, hl⟩ := hl
    obtain ⟨hy, hm⟩ := hm
    obtain ⟨kd, nm, ns, e, a, g, lo, hi, bd, el⟩ := x
    obtain ⟨kd', nm', ns', e', a', g', lo', hi', bd', el'⟩ := y
    simp only [Sts.lines, St.lines, List.cons_append, List.append_assoc, List.cons.injEq, Prod.mk.injEq, true_and, first_eq] at h
    obtain ⟨h1, h2⟩ := h
    have hA := first_alike hx hy h1
    have B1 := may_block hx
    have B2 := may_block hy
    simp only [Alike, St.kind, St.name, St.names, St.e, St.a, St.args, St.low, St.high] at hA
    obtain ⟨rfl, rfl, rfl, rfl, rfl, rfl, rfl, rfl⟩ := hA
    clear h1 hx hy
    simp only [Sts.size, St.size] at hsz
    by_cases hk : kd = 3 ∨ kd = 4 ∨ kd = 5
    · rw [if_pos hk, if_pos hk] at h2
      simp only [List.append_assoc] at h2
      have hc : ∀ (z : Sts) (q : List (Nat × List UInt8)), Close ((if z.len = 0 then [] else (t, elseT) :: z.lines (t + 1)) ++ ([(t, [125])] ++ q)) := fun z q => by
        split
        · exact close_of _ rfl
        · exact close_of _ rfl
      obtain ⟨h3, h4⟩ := ih bd bd' (t + 1) _ _ (by omega) B1.1 B2.1 (hc _ _) (hc _ _) h2
      subst h3
      have hEl : el = el' ∧ l.lines t ++ r = m.lines t ++ s := by
        by_cases z1 : el.len = 0
        · by_cases z2 : el'.len = 0
          · rw [if_pos z1, if_pos z2] at h4
            simp only [List.nil_append, List.cons_append, List.cons.injEq, true_and] at h4
            exact ⟨by rw [Sts.len_zero z1, Sts.len_zero z2], h4⟩
          · rw [if_pos z1, if_neg z2] at h4
            simp [elseT] at h4
        · by_cases z2 : el'.len = 0
          · rw [if_neg z1, if_pos z2] at h4
            simp [elseT] at h4
          · rw [if_neg z1, if_neg z2] at h4
            simp only [List.cons_append, List.cons.injEq, true_and] at h4
            obtain ⟨h5, h6⟩ := ih el el' (t + 1) _ _ (by omega) B1.2.1 B2.2.1 (close_of _ rfl) (close_of _ rfl) h4
            simp only [List.nil_append, List.cons.injEq, true_and] at h6
            exact ⟨h5, h6⟩
      obtain ⟨h5, h6⟩ := hEl
      obtain ⟨h7, h8⟩ := ih l m t r s (by omega) hl hm hr hs h6
      exact ⟨by rw [h5, h7], h8⟩
    · rw [if_neg hk, if_neg hk] at h2
      simp only [List.nil_append] at h2
      obtain ⟨h7, h8⟩ := ih l m t r s (by omega) hl hm hr hs h2
      obtain ⟨b1, l1⟩ := B1.2.2.resolve_left hk
      obtain ⟨b2, l2⟩ := B2.2.2.resolve_left hk
      exact ⟨by rw [b1, l1, b2, l2, h7], h8⟩
end Go.Proofs.YtlhbledakddbbaaGreatDoor
/- How deep statements are. -/
namespace Go.Proofs.YtlhbledakddbbaaGreatDoor
open Go.RowKit

set_option maxHeartbeats 1600000 in
theorem isZero_any (x : Ex) (b o N : Nat) (w : World) (h : x.At w N b o) :
    Calls Tryz.prog 114 #[.pointer (some ⟨b, o, none⟩)] w fun e w' => e = .returned (.bool x.none) ∧ w = w' := by
  obtain ⟨op, wd, nm, ar⟩ := x
  obtain ⟨⟨h0, h1, h2, h3⟩, ⟨p, c, h4, s4⟩⟩ := h
  unfold Ex.none
  simp only [Ex.op, Ex.word, Ex.name, Ex.args]
  have hm := s4.1
  clear s4
  obtain ⟨n, hn0⟩ : ∃ n, ar.len = n := ⟨_, rfl⟩
  simp only [hn0] at hm h4 ⊢
  clear hn0
  have es : (str nm).toList.isEmpty = nm.isEmpty := by rw [Lib.toList_data, str_data]
  go_enter Tryz.func114, Tryz.ntmps114
  by_cases h1 : op = 0
  · subst h1
    by_cases h2 : wd = 0
    · subst h2
      cases hn : nm.isEmpty with
      | true =>
        rw [hn] at es
        have e0 : (str nm).toList = [] := by simpa using es
        by_cases h4 : n = 0
        · subst h4
          go_wp2_with fail
          go_ret
          exact ⟨rfl, rfl⟩
        · have h5 : ((n : Int) == 0) = false := by simp; omega
          go_wp2_with fail
          go_ret
          exact ⟨by simp, rfl⟩
      | false =>
        rw [hn] at es
        have e0 : ¬ (str nm).toList = [] := by intro h; rw [h] at es; cases es
        go_wp2_with fail
        go_ret
        exact ⟨by simp, rfl⟩
    · have h5 : ((wd : Int) == 0) = false := by simp; omega
      go_wp2_with fail
      go_ret
      exact ⟨by simp, rfl⟩
  · have h5 : (op == 0) = false := by simp; omega
    go_wp2_with fail
    go_ret
    exact ⟨by simp [h1], rfl⟩
theorem deepestE_any (l : Exs) (hl6 : l.size ≤ 1000000) (p : Option Addr) (c N : Nat) (w : World) (h : l.In w N p) :
    Calls Tryz.prog 81 #[.slice p l.len c, .func (.func 38) #[] #[]] w fun e w' => e = .returned (.int .i64 l.deepest) ∧ w = w' :=
  deepest_step _ (depth_to _) l (Nat.le_refl _) hl6 p c N w h
theorem exAt_ofOk {w : World} {N b o : Nat} {x : Ex} {p : Option Addr} {c : Nat} (h : x.Ok w N p) (h0 : w.cell? ⟨b, o, none⟩ = some (.int .i64 x.op)) (h1 : w.cell? ⟨b, o + 1, none⟩ = some (.int .u64 (x.word : Int))) (h2 : w.cell? ⟨b, o + 2, none⟩ = some (.string (str x.name))) (h3 : w.cell? ⟨b, o + 3, none⟩ = some (.slice p x.args.len c)) : x.At w N b o := by
  obtain ⟨op, wd, nm, ar⟩ := x
  exact ⟨⟨h0, h1, h2, h.2⟩, ⟨p, c, h3, h.1⟩⟩
def DeepTo (n : Nat) : Prop := ∀ (x : St), x.size < n → x.wt ≤ 1000000 → ∀ (b o N : Nat) (w : World), b < N → N ≤ w.heap.size → x.At w N b o →
    Calls Tryz.prog 75 #[.pointer (some ⟨b, o, none⟩)] w fun e w' => e = .returned (.int .i64 (x.deep : Nat)) ∧ Below w.heap.size w w'
set_option maxHeartbeats 1600000 in
theorem deepestS_step (n : Nat) (ih : DeepTo n) (l : Sts) (hl : l.size ≤ n) (hl6 : l.wt ≤ 1000000) (p : Option Addr) (c N : Nat) (w : World) (h : l.In w N p) (hN : N ≤ w.heap.size) :
    Calls Tryz.prog 74 #[.slice p l.len c, .func (.func 75) #[] #[]] w fun e w' => e = .returned (.int .i64 (l.deep : Nat)) ∧ Below w.heap.size w w' := by
  have IH := Lib.hid ih
  have S1 := Lib.hid h
  have hm1 := h.1
  have HNN := Lib.hid hN
  clear ih h hN
  go_enter Tryz.func74, Tryz.ntmps74
  go_wp2_with fail
  go_loopw [5, 9] (fun d i wr => ∃ (k m : Nat) (r : Sts), d = .int .i64 m ∧ i = .int .i64 k ∧ k + r.len = l.len ∧ r.size ≤ n ∧ r.wt ≤ 1000000 ∧ Hid (∀ b o, p = some ⟨b, o, none⟩ → l.At w N b o → r.At w N b (o + k * 16)) ∧ Hid (l.deep = max m r.deep) ∧ m ≤ 1000000 ∧ Hid (Below w.heap.size w wr)) (fun _ i _ => l.len - (intOf i).toNat)
  case atStart => exact ⟨0, 0, l, rfl, rfl, by omega, hl, hl6, Lib.hid fun b o _ h => by rw [Nat.zero_mul]; exact h, Lib.hid (by omega), by omega, Lib.hid (Below.refl _ _)⟩
  case round =>
    obtain ⟨k, m, r, rfl, rfl, hk, hrs, hr6, hat, hE, hm6, hB⟩ := hrel
    cases r with
    | nil =>
      simp only [Sts.len] at hk
      have hge : ¬ k < l.len := by omega
      go_wp2_with fail
      go_ret
      exact ⟨ret_int (by rw [hE.out]; simp [Sts.deep]), hB.out⟩
    | cons x r =>
      simp only [Sts.len] at hk
      simp only [Sts.size] at hrs
      simp only [Sts.wt] at hr6
      have hlt : k < l.len := by omega
      rcases S1.out.2 with h30 | ⟨b, o, rfl, hb, ha⟩
      · omega
      obtain ⟨hx, hr⟩ := hat.out b o rfl ha
      have HR := Lib.hid hr
      have hxd := St.deep_le x
      have HC := Lib.hid (IH.out x (by omega) (by omega) b (o + k * 16) wr.heap.size wr (by have := hB.out.size; have := HNN.out; omega) (Nat.le_refl _) (St.At.later (hB.out.mono HNN.out) (Nat.le_trans HNN.out hB.out.size) x b _ hb hx))
      have hmx : max (m : Int) (x.deep : Int) = ((max m x.deep : Nat) : Int) := by omega
      have HE := Lib.hid (show l.deep = max (max m x.deep) r.deep by rw [hE.out, Sts.deep]; omega)
      generalize x.deep = dx at HC HE hxd hmx
      clear hx hr ha hE
      go_wp2_with fail
      refine HC.out.mono ?_
      rintro e w2 ⟨rfl, hB2⟩
      have HB2 := Lib.hid (hB.out.trans (hB2.mono hB.out.size))
      clear hB2 HC
      go_wp2_with fail
      go_roundw
      case rel => exact ⟨k + 1, max m dx, r, by rw [← hmx], by go_num, by omega, by omega, by omega, Lib.hid fun b' o' e _ => by cases e; rw [show o + (k + 1) * 16 = o + k * 16 + 16 by omega]; exact HR.out, HE, by omega, HB2⟩
      case measure => simp [intOf]; omega
set_option maxRecDepth 100000 in
set_option maxHeartbeats 6400000 in
theorem deep_step (n : Nat) (ih : DeepTo n) : DeepTo (n + 1) := by
  intro x hxs hx6 b o N w hb hN hx
  obtain ⟨s, c1, ok1⟩ := St.At.openP hx
  obtain ⟨kd, nm, ns, e, a, g, lo, hi, bd, el⟩ := x
  simp only [St.size] at hxs
  simp only [St.wt] at hx6
  have x11 : w.cell? ⟨b, o + 11, none⟩ = some (.slice s.pg g.len s.cg) := c1 11 _ rfl
  have x14 : w.cell? ⟨b, o + 14, none⟩ = some (.slice s.pb bd.len s.cb) := c1 14 _ rfl
  have x15 : w.cell? ⟨b, o + 15, none⟩ = some (.slice s.pl el.len s.cl) := c1 15 _ rfl
  have hbw : b < w.heap.size := Nat.lt_of_lt_of_le hb hN
  have HEt := Lib.hid (fun (w1 : World) (hB : Below w.heap.size w w1) => Ex.At.later (hB.mono hN) (Nat.le_refl N) e b (o + 3) hb (show e.At w N b (o + 3) from exAt_ofOk ok1.2.1 (c1 3 _ rfl) (c1 4 _ rfl) (c1 5 _ rfl) (c1 6 _ rfl)))
  have HAt := Lib.hid (fun (w1 : World) (hB : Below w.heap.size w w1) => Ex.At.later (hB.mono hN) (Nat.le_refl N) a b (o + 7) hb (show a.At w N b (o + 7) from exAt_ofOk ok1.2.2.1 (c1 7 _ rfl) (c1 8 _ rfl) (c1 9 _ rfl) (c1 10 _ rfl)))
  have HGd := Lib.hid (fun (w1 : World) (hB : Below w.heap.size w w1) => deepestE_any g (by omega) s.pg s.cg N w1 (ok1.2.2.2.1.later (hB.mono hN) (Nat.le_refl N)))
  have HBd := Lib.hid (fun (w1 : World) (hB : Below w.heap.size w w1) => deepestS_step n ih bd (by omega) (by omega) s.pb s.cb N w1 (ok1.2.2.2.2.1.later (hB.mono hN) (Nat.le_refl N)) (Nat.le_trans hN hB.size))
  have HEl := Lib.hid (fun (w1 : World) (hB : Below w.heap.size w w1) => deepestS_step n ih el (by omega) (by omega) s.pl s.cl N w1 (ok1.2.2.2.2.2.1.later (hB.mono hN) (Nat.le_refl N)) (Nat.le_trans hN hB.size))
  have b1 := Sts.deep_le bd
  have b2 := Sts.deep_le el
  have b3 := Ex.dp_le e
  have b4 := Ex.dp_le a
  have b5 := Exs.deepest_le g
  simp only [St.deep]
  generalize bd.deep = db at HBd b1 ⊢
  generalize el.deep = de at HEl b2 ⊢
  generalize g.deepest = dg at HGd b5 ⊢
  obtain ⟨m1, hm1e⟩ : ∃ m, m = max (max dg db) de := ⟨_, rfl⟩
  have hmx : ∀ (w : World) (ts : Array TypeId) (t : TypeId), (Builtin.max_ ts t #[.int .i64 (dg : Int), .int .i64 (db : Int), .int .i64 (de : Int)]).run Tryz.prog w = .ok (.int .i64 (m1 : Int)) w := by
    intro w ts t
    rw [run_max_int3]
    have hq : (if (de : Int) > (if (db : Int) > dg then (db : Int) else dg) then (de : Int) else (if (db : Int) > dg then (db : Int) else dg)) = (m1 : Int) := by (repeat' split) <;> omega
    rw [hq]
  have hm1b : m1 ≤ 1000000 := by omega
  have HM1 := Lib.hid hm1e
  clear hm1e c1 ok1 hx ih
  go_enter Tryz.func75, Tryz.ntmps75
  go_upto_region 1 with fail
  try simp only [Act.put]
  have HS1 : Below w.heap.size w w.drew := (Below.refl _ _).drew
  refine wp_region_held_drew (S := fun W => Below w.heap.size w W ∧ W.cell? ⟨b, o + 11, none⟩ = some (.slice s.pg g.len s.cg) ∧ W.cell? ⟨b, o + 14, none⟩ = some (.slice s.pb bd.len s.cb) ∧ W.cell? ⟨b, o + 15, none⟩ = some (.slice s.pl el.len s.cl)) (by kernel_rfl) ?_ (fun hHeld => ?_)
  · exact ⟨HS1, (HS1.cell hbw).trans x11, (HS1.cell hbw).trans x14, (HS1.cell hbw).trans x15⟩
  refine wpAnyH_take (i := 0) (oi := { dst := Option.some 4, op := Go.Op.move (Go.Operand.tmp 0), type := 145, pos := "deep.go:20", after := #[], guard := Option.none }) (v := ?_) rfl (by kernel_rfl) (by kernel_rfl) (by kernel_rfl) (fun _ _ _ h => h) (Or.inl ⟨by rfl, ?_⟩) (by assumption) ?_
  rotate_left
  · (intro w hSw; (try dsimp only at hSw); go_simp; try with_reducible rfl)
  try simp only [Act.put, List.setIfInBounds_toArray, List.set_cons_zero, List.set_cons_succ]
  refine wpAnyH_take (i := 1) (oi := { dst := Option.some 5, op := Go.Op.nilCheck (Go.Operand.tmp 4), type := 0, pos := "deep.go:20", after := #[{ on := 0, ground := Go.Ground.data }], guard := Option.none }) (v := ?_) rfl (by kernel_rfl) (by kernel_rfl) (by kernel_rfl) (fun _ _ _ h => h) (Or.inl ⟨by rfl, ?_⟩) (by assumption) ?_
  rotate_left
  · (intro w hSw; (try dsimp only at hSw); go_simp; try with_reducible rfl)
  try simp only [Act.put, List.setIfInBounds_toArray, List.set_cons_zero, List.set_cons_succ]
  refine wpAnyH_take (i := 2) (oi := { dst := Option.some 6, op := Go.Op.fieldAddr 54 (Go.Operand.tmp 5) 5, type := 0, pos := "deep.go:20", after := #[{ on := 1, ground := Go.Ground.data }], guard := Option.none }) (v := ?_) rfl (by kernel_rfl) (by kernel_rfl) (by kernel_rfl) (fun _ _ _ h => h) (Or.inl ⟨by rfl, ?_⟩) (by assumption) ?_
  rotate_left
  · (intro w hSw; (try dsimp only at hSw); go_simp; try with_reducible rfl)
  try simp only [Act.put, List.setIfInBounds_toArray, List.set_cons_zero, List.set_cons_succ]
  refine wpAnyH_take (i := 3) (oi := { dst := Option.some 7, op := Go.Op.load 24 (Go.Operand.tmp 6), type := 24, pos := "deep.go:20", after := #[{ on := 2, ground := Go.Ground.data }], guard := Option.none }) (v := ?_) rfl (by kernel_rfl) (by kernel_rfl) (by kernel_rfl) (fun _ _ _ h => h) (Or.inl ⟨by rfl, ?_⟩) (by assumption) ?_
  rotate_left
  · (intro w hSw; (try dsimp only at hSw); go_simp; try with_reducible rfl)
  try simp only [Act.put, List.setIfInBounds_toArray, List.set_cons_zero, List.set_cons_succ]
  refine wpAnyH_take (i := 5) (oi := { dst := Option.some 9, op := Go.Op.move (Go.Operand.tmp 0), type := 145, pos := "deep.go:20", after := #[], guard := Option.none }) (v := ?_) rfl (by kernel_rfl) (by kernel_rfl) (by kernel_rfl) (fun _ _ _ h => h) (Or.inl ⟨by rfl, ?_⟩) (by assumption) ?_
  rotate_left
  · (intro w hSw; (try dsimp only at hSw); go_simp; try with_reducible rfl)
  try simp only [Act.put, List.setIfInBounds_toArray, List.set_cons_zero, List.set_cons_succ]
  refine wpAnyH_take (i := 6) (oi := { dst := Option.some 10, op := Go.Op.nilCheck (Go.Operand.tmp 9), type := 0, pos := "deep.go:20", after := #[{ on := 5, ground := Go.Ground.data }], guard := Option.none }) (v := ?_) rfl (by kernel_rfl) (by kernel_rfl) (by kernel_rfl) (fun _ _ _ h => h) (Or.inl ⟨by rfl, ?_⟩) (by assumption) ?_
  rotate_left
  · (intro w hSw; (try dsimp only at hSw); go_simp; try with_reducible rfl)
  try simp only [Act.put, List.setIfInBounds_toArray, List.set_cons_zero, List.set_cons_succ]
  refine wpAnyH_take (i := 7) (oi := { dst := Option.some 11, op := Go.Op.fieldAddr 54 (Go.Operand.tmp 10) 8, type := 0, pos := "deep.go:20", after := #[{ on := 6, ground := Go.Ground.data }], guard := Option.none }) (v := ?_) rfl (by kernel_rfl) (by kernel_rfl) (by kernel_rfl) (fun _ _ _ h => h) (Or.inl ⟨by rfl, ?_⟩) (by assumption) ?_
  rotate_left
  · (intro w hSw; (try dsimp only at hSw); go_simp; try with_reducible rfl)
  try simp only [Act.put, List.setIfInBounds_toArray, List.set_cons_zero, List.set_cons_succ]
  refine wpAnyH_take (i := 8) (oi := { dst := Option.some 12, op := Go.Op.load 47 (Go.Operand.tmp 11), type := 47, pos := "deep.go:20", after := #[{ on := 7, ground := Go.Ground.data }], guard := Option.none }) (v := ?_) rfl (by kernel_rfl) (by kernel_rfl) (by kernel_rfl) (fun _ _ _ h => h) (Or.inl ⟨by rfl, ?_⟩) (by assumption) ?_
  rotate_left
  · (intro w hSw; (try dsimp only at hSw); go_simp; try with_reducible rfl)
  try simp only [Act.put, List.setIfInBounds_toArray, List.set_cons_zero, List.set_cons_succ]
  refine wpAnyH_take (i := 10) (oi := { dst := Option.some 14, op := Go.Op.move (Go.Operand.tmp 0), type := 145, pos := "deep.go:20", after := #[], guard := Option.none }) (v := ?_) rfl (by kernel_rfl) (by kernel_rfl) (by kernel_rfl) (fun _ _ _ h => h) (Or.inl ⟨by rfl, ?_⟩) (by assumption) ?_
  rotate_left
  · (intro w hSw; (try dsimp only at hSw); go_simp; try with_reducible rfl)
  try simp only [Act.put, List.setIfInBounds_toArray, List.set_cons_zero, List.set_cons_succ]
  refine wpAnyH_take (i := 11) (oi := { dst := Option.some 15, op := Go.Op.nilCheck (Go.Operand.tmp 14), type := 0, pos := "deep.go:20", after := #[{ on := 10, ground := Go.Ground.data }], guard := Option.none }) (v := ?_) rfl (by kernel_rfl) (by kernel_rfl) (by kernel_rfl) (fun _ _ _ h => h) (Or.inl ⟨by rfl, ?_⟩) (by assumption) ?_
  rotate_left
  · (intro w hSw; (try dsimp only at hSw); go_simp; try with_reducible rfl)
  try simp only [Act.put, List.setIfInBounds_toArray, List.set_cons_zero, List.set_cons_succ]
  refine wpAnyH_take (i := 12) (oi := { dst := Option.some 16, op := Go.Op.fieldAddr 54 (Go.Operand.tmp 15) 9, type := 0, pos := "deep.go:20", after := #[{ on := 11, ground := Go.Ground.data }], guard := Option.none }) (v := ?_) rfl (by kernel_rfl) (by kernel_rfl) (by kernel_rfl) (fun _ _ _ h => h) (Or.inl ⟨by rfl, ?_⟩) (by assumption) ?_
  rotate_left
  · (intro w hSw; (try dsimp only at hSw); go_simp; try with_reducible rfl)
  try simp only [Act.put, List.setIfInBounds_toArray, List.set_cons_zero, List.set_cons_succ]
  refine wpAnyH_take (i := 13) (oi := { dst := Option.some 17, op := Go.Op.load 47 (Go.Operand.tmp 16), type := 47, pos := "deep.go:20", after := #[{ on := 12, ground := Go.Ground.data }], guard := Option.none }) (v := ?_) rfl (by kernel_rfl) (by kernel_rfl) (by kernel_rfl) (fun _ _ _ h => h) (Or.inl ⟨by rfl, ?_⟩) (by assumption) ?_
  rotate_left
  · (intro w hSw; (try dsimp only at hSw); go_simp; try with_reducible rfl)
  try simp only [Act.put, List.setIfInBounds_toArray, List.set_cons_zero, List.set_cons_succ]
  refine wpAnyH_ready (rs := [4]) (by kernel_rfl) (by simp) ?_
  refine AllReadyH.cons (o := { dst := Option.some 8, op := Go.Op.call { callee := Go.Callee.value (Go.Operand.func 81), args := #[Go.Operand.tmp 7, Go.Operand.func 38], argTypes := #[24, 72] }, type := 3, pos := "deep.go:20", after := #[{ on := 3, ground := Go.Ground.data }], guard := Option.none }) rfl (fun K hK => ?_) AllReadyH.nil
  go_simp
  refine (HGd.out _ HS1).mono ?_
  rintro z w2 ⟨rfl, rfl⟩
  refine hK.out _ _ ?_ (fun hHeld => ?_)
  · exact ⟨HS1, (HS1.cell hbw).trans x11, (HS1.cell hbw).trans x14, (HS1.cell hbw).trans x15⟩
  clear hK K
  try simp only [Act.put, List.setIfInBounds_toArray, List.set_cons_zero, List.set_cons_succ]
  refine wpAnyH_ready (rs := [9]) (by kernel_rfl) (by simp) ?_
  refine AllReadyH.cons (o := { dst := Option.some 13, op := Go.Op.call { callee := Go.Callee.value (Go.Operand.func 74), args := #[Go.Operand.tmp 12, Go.Operand.func 75], argTypes := #[47, 121] }, type := 3, pos := "deep.go:20", after := #[{ on := 8, ground := Go.Ground.data }, { on := 4, ground := Go.Ground.chain }], guard := Option.none }) rfl (fun K hK => ?_) AllReadyH.nil
  go_simp
  refine (HBd.out _ HS1).mono ?_
  rintro z w3 ⟨rfl, hB2⟩
  replace HS1 := HS1.trans (hB2.mono HS1.size)
  clear hB2
  refine hK.out _ _ ?_ (fun hHeld => ?_)
  · exact ⟨HS1, (HS1.cell hbw).trans x11, (HS1.cell hbw).trans x14, (HS1.cell hbw).trans x15⟩
  clear hK K
  try simp only [Act.put, List.setIfInBounds_toArray, List.set_cons_zero, List.set_cons_succ]
  refine wpAnyH_ready (rs := [14]) (by kernel_rfl) (by simp) ?_
  refine AllReadyH.cons (o := { dst := Option.some 18, op := Go.Op.call { callee := Go.Callee.value (Go.Operand.func 74), args := #[Go.Operand.tmp 17, Go.Operand.func 75], argTypes := #[47, 121] }, type := 3, pos := "deep.go:20", after := #[{ on := 13, ground := Go.Ground.data }, { on := 9, ground := Go.Ground.chain }], guard := Option.none }) rfl (fun K hK => ?_) AllReadyH.nil
  go_simp
  refine (HEl.out _ HS1).mono ?_
  rintro z w4 ⟨rfl, hB2⟩
  replace HS1 := HS1.trans (hB2.mono HS1.size)
  clear hB2
  refine hK.out _ _ ?_ (fun hHeld => ?_)
  · exact ⟨HS1, (HS1.cell hbw).trans x11, (HS1.cell hbw).trans x14, (HS1.cell hbw).trans x15⟩
  clear hK K
  try simp only [Act.put, List.setIfInBounds_toArray, List.set_cons_zero, List.set_cons_succ]
  refine wpAnyH_take (i := 15) (oi := { dst := Option.some 19, op := Go.Op.call { callee := Go.Callee.builtin Go.Builtin.max, args := #[Go.Operand.tmp 8, Go.Operand.tmp 13, Go.Operand.tmp 18], argTypes := #[3, 3, 3] }, type := 3, pos := "deep.go:20", after := #[{ on := 4, ground := Go.Ground.data }, { on := 9, ground := Go.Ground.data }, { on := 14, ground := Go.Ground.data }], guard := Option.none }) (v := .int .i64 (m1 : Nat)) rfl (by kernel_rfl) (by kernel_rfl) (by kernel_rfl) (fun _ _ _ h => h) (Or.inl ⟨by rfl, ?_⟩) (by assumption) ?_
  · (intro w hSw; (try dsimp only at hSw); go_simp; (try rw [hmx]); (try rfl))
  try simp only [Act.put, List.setIfInBounds_toArray, List.set_cons_zero, List.set_cons_succ]
  refine wpAnyH_take (i := 16) (oi := { dst := Option.some 3, op := Go.Op.assign (Go.Operand.tmp 19), type := 3, pos := "deep.go:20", after := #[{ on := 15, ground := Go.Ground.data }, { on := 14, ground := Go.Ground.chain }, { on := 0, ground := Go.Ground.phase }, { on := 1, ground := Go.Ground.phase }, { on := 2, ground := Go.Ground.phase }, { on := 3, ground := Go.Ground.phase }, { on := 4, ground := Go.Ground.phase }, { on := 5, ground := Go.Ground.phase }, { on := 6, ground := Go.Ground.phase }, { on := 7, ground := Go.Ground.phase }, { on := 8, ground := Go.Ground.phase }, { on := 9, ground := Go.Ground.phase }, { on := 10, ground := Go.Ground.phase }, { on := 11, ground := Go.Ground.phase }, { on := 12, ground := Go.Ground.phase }, { on := 13, ground := Go.Ground.phase }, { on := 14, ground := Go.Ground.phase }, { on := 15, ground := Go.Ground.phase }], guard := Option.none }) (v := ?_) rfl (by kernel_rfl) (by kernel_rfl) (by kernel_rfl) (fun _ _ _ h => h) (Or.inl ⟨by rfl, ?_⟩) (by assumption) ?_
  rotate_left
  · (intro w hSw; (try dsimp only at hSw); go_simp; try with_reducible rfl)
  try simp only [Act.put, List.setIfInBounds_toArray, List.set_cons_zero, List.set_cons_succ]
  refine wpAnyH_done (by kernel_rfl) ?_ _
  have HA20 := Lib.hid (HEt.out _ HS1)
  go_wp2_with fail
  refine (isZero_any e b (o + 3) N _ HA20.out).mono ?_
  rintro z w' ⟨rfl, rfl⟩
  cases hne : e.none with
  | true =>
    have dqe : e.dp = 0 := by unfold Ex.dp; rw [hne]; rfl
    have HA21 := Lib.hid (HAt.out _ HS1)
    go_wp2_with fail
    refine (isZero_any a b (o + 7) N _ HA21.out).mono ?_
    rintro z w' ⟨rfl, rfl⟩
    cases hna : a.none with
    | true =>
      have dqa : a.dp = 0 := by unfold Ex.dp; rw [hna]; rfl
      have HFin := Lib.hid (show max (max (max (max db de) dg) e.dp) a.dp + 1 = 1 + m1 by have := HM1.out; (try have t20 := HM20.out); (try have t21 := HM21.out); (try have t22 := HM22.out); (try have t23 := HM23.out); (try have t24 := HM24.out); (try have t25 := HM25.out); (try have t26 := HM26.out); (try have t27 := HM27.out); (try have t28 := HM28.out); (try have t29 := HM29.out); omega)
      have hz1 : IntKind.i64.wrap (1 + (m1 : Int)) = 1 + (m1 : Int) := IntWalk.i64_in _ (by omega)
      go_wp2_with fail
      go_ret
      exact ⟨ret_int (by rw [HFin.out]; omega), HS1⟩
    | false =>
      have dqa : a.dp = a.depth := by unfold Ex.dp; rw [hna]; rfl
      have HD := Lib.hid (depthOf_any a (by omega) b (o + 7) N _ hb HA21.out)
      rw [← dqa] at HD
      obtain ⟨dav, hdav⟩ : ∃ d, a.dp = d := ⟨_, rfl⟩
      rw [hdav] at HD
      obtain ⟨m21, hm21⟩ : ∃ m, m = max m1 dav := ⟨_, rfl⟩
      have hx21 : max (m1 : Int) (dav : Int) = (m21 : Int) := by omega
      have hy21 : m21 ≤ 1000000 := by omega
      have HM21 := Lib.hid hm21
      clear hm21
      go_wp2_with fail
      refine HD.out.mono ?_
      rintro z w' ⟨rfl, rfl⟩
      have HFin := Lib.hid (show max (max (max (max db de) dg) e.dp) a.dp + 1 = 1 + m21 by have := HM1.out; (try have t20 := HM20.out); (try have t21 := HM21.out); (try have t22 := HM22.out); (try have t23 := HM23.out); (try have t24 := HM24.out); (try have t25 := HM25.out); (try have t26 := HM26.out); (try have t27 := HM27.out); (try have t28 := HM28.out); (try have t29 := HM29.out); omega)
      have hz1 : IntKind.i64.wrap (1 + (m21 : Int)) = 1 + (m21 : Int) := IntWalk.i64_in _ (by omega)
      go_wp2_with fail
      go_ret
      exact ⟨ret_int (by rw [HFin.out]; omega), HS1⟩
  | false =>
    have dqe : e.dp = e.depth := by unfold Ex.dp; rw [hne]; rfl
    have HD := Lib.hid (depthOf_any e (by omega) b (o + 3) N _ hb HA20.out)
    rw [← dqe] at HD
    obtain ⟨dev, hdev⟩ : ∃ d, e.dp = d := ⟨_, rfl⟩
    rw [hdev] at HD
    obtain ⟨m20, hm20⟩ : ∃ m, m = max m1 dev := ⟨_, rfl⟩
    have hx20 : max (m1 : Int) (dev : Int) = (m20 : Int) := by omega
    have hy20 : m20 ≤ 1000000 := by omega
    have HM20 := Lib.hid hm20
    clear hm20
    go_wp2_with fail
    refine HD.out.mono ?_
    rintro z w' ⟨rfl, rfl⟩
    have HA22 := Lib.hid (HAt.out _ HS1)
    go_wp2_with fail
    refine (isZero_any a b (o + 7) N _ HA22.out).mono ?_
    rintro z w' ⟨rfl, rfl⟩
    cases hna : a.none with
    | true =>
      have dqa : a.dp = 0 := by unfold Ex.dp; rw [hna]; rfl
      have HFin := Lib.hid (show max (max (max (max db de) dg) e.dp) a.dp + 1 = 1 + m20 by have := HM1.out; (try have t20 := HM20.out); (try have t21 := HM21.out); (try have t22 := HM22.out); (try have t23 := HM23.out); (try have t24 := HM24.out); (try have t25 := HM25.out); (try have t26 := HM26.out); (try have t27 := HM27.out); (try have t28 := HM28.out); (try have t29 := HM29.out); omega)
      have hz1 : IntKind.i64.wrap (1 + (m20 : Int)) = 1 + (m20 : Int) := IntWalk.i64_in _ (by omega)
      go_wp2_with fail
      go_ret
      exact ⟨ret_int (by rw [HFin.out]; omega), HS1⟩
    | false =>
      have dqa : a.dp = a.depth := by unfold Ex.dp; rw [hna]; rfl
      have HD := Lib.hid (depthOf_any a (by omega) b (o + 7) N _ hb HA22.out)
      rw [← dqa] at HD
      obtain ⟨dav, hdav⟩ : ∃ d, a.dp = d := ⟨_, rfl⟩
      rw [hdav] at HD
      obtain ⟨m22, hm22⟩ : ∃ m, m = max m20 dav := ⟨_, rfl⟩
      have hx22 : max (m20 : Int) (dav : Int) = (m22 : Int) := by omega
      have hy22 : m22 ≤ 1000000 := by omega
      have HM22 := Lib.hid hm22
      clear hm22
      go_wp2_with fail
      refine HD.out.mono ?_
      rintro z w' ⟨rfl, rfl⟩
      have HFin := Lib.hid (show max (max (max (max db de) dg) e.dp) a.dp + 1 = 1 + m22 by have := HM1.out; (try have t20 := HM20.out); (try have t21 := HM21.out); (try have t22 := HM22.out); (try have t23 := HM23.out); (try have t24 := HM24.out); (try have t25 := HM25.out); (try have t26 := HM26.out); (try have t27 := HM27.out); (try have t28 := HM28.out); (try have t29 := HM29.out); omega)
      have hz1 : IntKind.i64.wrap (1 + (m22 : Int)) = 1 + (m22 : Int) := IntWalk.i64_in _ (by omega)
      go_wp2_with fail
      go_ret
      exact ⟨ret_int (by rw [HFin.out]; omega), HS1⟩
theorem deep_to : ∀ n, DeepTo n
  | 0 => fun _ h => absurd h (Nat.not_lt_zero _)
  | n + 1 => deep_step n (deep_to n)
set_option maxHeartbeats 1600000 in
theorem deepS_any (l : Sts) (h6 : l.wt ≤ 1000000) (p : Option Addr) (c N : Nat) (w : World) (h : l.In w N p) (hN : N ≤ w.heap.size) :
    Calls Tryz.prog 29 #[.slice p l.len c] w fun e w' => e = .returned (.int .i64 (l.deep : Nat)) ∧ Below w.heap.size w w' := by
  have HD := Lib.hid (deepestS_step _ (deep_to _) l (Nat.le_refl _) h6 p c N w h hN)
  clear h
  go_enter Tryz.func29, Tryz.ntmps29
  go_wp2_with fail
  refine HD.out.mono ?_
  rintro e w' ⟨rfl, hB⟩
  have HB := Lib.hid hB
  clear hB
  go_wp2_with fail
  go_ret
  exact ⟨rfl, HB.out⟩
end Go.Proofs.YtlhbledakddbbaaGreatDoor
/- Which statements can be told, the program's own: lists, and what a statement has besides. -/
namespace Go.Proofs.YtlhbledakddbbaaGreatDoor
open Go.RowKit

/-- cells written into a row -/
def putA (cur : Array Value) (o : Nat) (vs : Array Value) : Array Value := (cur.toList.take o ++ vs.toList ++ cur.toList.drop (o + vs.size)).toArray
theorem but_row (w : World) (g : Nat) (cs : Array Value) : But g w (w.setRow g cs) :=
  ⟨rfl, rfl, rfl, by simp [World.setRow], fun k _ hk => setRow_other w g k _ (fun e => hk (by omega))⟩
/-- a store into a block of one's own: what lies there behind it, all else as it was -/
theorem wpl_put {P : Program} {ops : Array Oper} {rest : List Oper} {op : Oper} {a : Act} {w : World} {Q : Exit → Act → World → Prop} (hgd : op.guard = none) (ty : TypeId) (x y : Operand) (ho : op.op = .store ty x y) (hd : op.dst = none)
    (g o : Nat) (v : Value) (hx : a.eval x = .pointer (some ⟨g, o, none⟩)) (hy : a.eval y = v) (cur : Array Value) (t : TypeId) (hg : w.heap[g]? = some (.cells cur t (0, 0)))
    (hl : o + v.cells.size ≤ cur.size) (hi : (P.info? ty).map (·.size) = some v.cells.size) (h1 : v.cells.toList.all (·.oneCell') = true)
    (h : ∀ w', w'.heap[g]? = some (.cells (putA cur o v.cells) t (0, 0)) → But g w w' → wpList P ops Q rest a w') : wpList P ops Q (op :: rest) a w :=
  wpList_plain hgd fun _ hK => by
    have hs : (storeVar ty ⟨g, o, none⟩ v).run P w = .ok () (w.setRow g (putA cur o v.cells)) := by
      have := run_storeCells_at (P := P) g o t v.cells.toList 0 cur w hg (by simp; omega) (fun u hu => (List.all_eq_true.1 h1) u hu)
      cases hq : P.info? ty with
      | none => simp [hq] at hi
      | some i =>
        have hz : v.cells.size = i.size := by simp [hq] at hi; omega
        simp only [Nat.add_zero, Array.length_toList] at this
        simp [storeVar, sizeOf, typeInfo, hq, hz, this, putA]
    unfold Oper.wp execOp
    simp only [ho, hx, hy, Instr.storeAt, Instr.sureAddr, Sem.run_bind, Sem.run_pure, Result.andThen_ok, hs]
    refine hK _ _ ?_
    rw [hd]
    exact h _ (setRow_heap w g _ _ t _ hg) (but_row w g _)
/-- a whole struct loaded by a guarded operation that is wanted -/
theorem wpl_load_if {P : Program} {ops : Array Oper} {rest : List Oper} {op : Oper} {a : Act} {w : World} {Q : Exit → Act → World → Prop} (hw : Region.wanted op (yielded ops a.tmps) = true) (ty : TypeId) (x : Operand) (ho : op.op = .load ty x)
    (b o : Nat) (hx : a.eval x = .pointer (some ⟨b, o, none⟩)) (A : Array Value) (d : TypeDesc) (hc : w.rangeAt b o A.toList)
    (hu : P.underlying ty = some d) (hd : d.isRow = true) (hi : (P.info? ty).map (·.size) = some A.size)
    (h : wpList P ops Q rest (a.put op.dst (.agg A)) w) : wpList P ops Q (op :: rest) a w := by
  refine wpList_step fun K hK => ?_
  rw [if_pos hw]
  refine wp_load_mid ty x ho b o hx A.toList d hc hu hd (by rw [hi]; simp) ?_
  simp only [Array.toArray_toList]
  exact hK _ _ h
theorem But.below {g B : Nat} {w w1 w2 : World} (h : But g w1 w2) (hB : Below B w w1) (hg : B ≤ g) (hz : B ≤ w1.heap.size) : Below B w w2 :=
  hB.trans ⟨h.os, h.tape, h.output, h.size, fun k hk => by
    exact h.block k (by omega) (by omega)⟩
theorem range_block {w : World} {g : Nat} {A : Array Value} {t : TypeId} {fz : Nat × Nat} (h : w.heap[g]? = some (.cells A t fz)) : w.rangeAt g 0 A.toList := by
  intro j v hv
  rw [Nat.zero_add]
  rw [← Array.getElem?_toList] at *
  simp [World.cell?, h, ← Array.getElem?_toList, hv]
theorem cell_block {w : World} {g : Nat} {A : Array Value} {t : TypeId} {fz : Nat × Nat} (h : w.heap[g]? = some (.cells A t fz)) {j : Nat} {v : Value} (hv : A[j]? = some v) : w.cell? ⟨g, j, none⟩ = some v := by
  simp [World.cell?, h, hv]

set_option maxHeartbeats 1600000 in
theorem everyStr_any (ns : List (List UInt8)) (p : Option Addr) (c N : Nat) (w : World) (h : RowIn N (StrAt w) 1 ns p) :
    Calls Tryz.prog 94 #[.slice p ns.length c, .func (.func 78) #[] #[]] w fun e w' => e = .returned (.bool (namesB ns)) ∧ w = w' := by
  rcases h with ⟨hm, h0 | ⟨b, o, rfl, hb, ha⟩⟩
  · go_enter Tryz.func94, Tryz.ntmps94
    go_wp2_with fail
    go_loopw [9] (fun i wr => i = .int .i64 0 ∧ wr = w) (fun _ _ => 0)
    case atStart => exact ⟨rfl, rfl⟩
    case round =>
      obtain ⟨rfl, rfl⟩ := hrel
      have hge : ¬ 0 < ns.length := by omega
      go_wp2_with fail
      go_ret
      exact ⟨ret_bool (by cases ns with | nil => rfl | cons => simp at h0), rfl⟩
  · have HA := Lib.hid ha
    clear ha
    go_enter Tryz.func94, Tryz.ntmps94
    go_wp2_with fail
    go_loopw [9] (fun i wr => ∃ (k : Nat) (r : List (List UInt8)), i = .int .i64 k ∧ k + r.length = ns.length ∧ Hid (Row (StrAt w) 1 r b (o + k * 1)) ∧ Hid (namesB ns = namesB r) ∧ wr = w) (fun i _ => ns.length - (intOf i).toNat)
    case atStart => exact ⟨0, ns, rfl, by omega, Lib.hid (by simpa using HA.out), Lib.hid rfl, rfl⟩
    case round =>
      obtain ⟨k, r, rfl, hk, hr, hE, rfl⟩ := hrel
      cases r with
      | nil =>
        simp only [List.length_nil] at hk
        have hge : ¬ k < ns.length := by omega
        go_wp2_with fail
        go_ret
        exact ⟨ret_bool (by rw [hE.out]; rfl), rfl⟩
      | cons x r =>
        obtain ⟨hx, hr2⟩ := hr.out
        have hr3 := Lib.hid (show Row (StrAt wr) 1 r b (o + (k + 1) * 1) by rw [show o + (k + 1) * 1 = o + k * 1 + 1 by omega]; exact hr2)
        simp only [List.length_cons] at hk
        have hlt : k < ns.length := by omega
        have hx1 : wr.cell? ⟨b, o + k * 1, none⟩ = some (.string (str x)) := hx
        have hx2 : wr.cell? ⟨b, o + k, none⟩ = some (.string (str x)) := by rw [Nat.mul_one] at hx1; exact hx1
        have HNm := Lib.hid (fun w => name_any (str x) w)
        rw [str_data] at HNm
        have HE := Lib.hid (show namesB ns = (nameB x && namesB r) by rw [hE.out]; simp [namesB])
        clear hr hx hr2 hE
        obtain ⟨m, hm'⟩ : ∃ m, nameB x = m := ⟨_, rfl⟩
        rw [hm'] at HE HNm
        cases m
        · go_wp2_with fail
          refine (HNm.out _).mono ?_
          rintro e w2 ⟨rfl, rfl⟩
          go_wp2_with fail
          go_ret
          exact ⟨ret_bool (by rw [HE.out]; rfl), rfl⟩
        · go_wp2_with fail
          refine (HNm.out _).mono ?_
          rintro e w2 ⟨rfl, rfl⟩
          go_wp2_with fail
          go_roundw
          case rel => exact ⟨k + 1, r, by go_num, by omega, hr3, Lib.hid (by rw [HE.out]; simp), trivial⟩
          case measure => simp [intOf]; omega

theorem everyEx_any (l : Exs) (p : Option Addr) (c N : Nat) (w : World) (hN : N ≤ w.heap.size) (h : l.In w N p) :
    Calls Tryz.prog 77 #[.slice p l.len c, .func (.func 35) #[] #[]] w fun e w' => e = .returned (.bool l.may) ∧ Below w.heap.size w w' :=
  every_step _ (fun x _ p c N w hN hx => mayExpr_any x p c N w hN hx) l (Nat.le_refl _) p c N w hN h

def MayS (n : Nat) : Prop := ∀ (x : St), x.size < n → ∀ (s : StP) (N : Nat) (w : World), N ≤ w.heap.size → x.Ok w N s →
    Calls Tryz.prog 106 #[x.val s] w fun e w' => e = .returned (.bool x.may) ∧ Below w.heap.size w w'
set_option maxRecDepth 100000 in
set_option maxHeartbeats 3200000 in
theorem everyS_step (n : Nat) (ih : MayS n) (l : Sts) (hl : l.size ≤ n) (p : Option Addr) (c N : Nat) (w : World) (hN : N ≤ w.heap.size) (h : l.In w N p) :
    Calls Tryz.prog 105 #[.slice p l.len c, .func (.func 106) #[] #[]] w fun e w' => e = .returned (.bool l.may) ∧ Below w.heap.size w w' := by
  have IH := Lib.hid ih
  have S1 := Lib.hid h
  have hm1 := h.1
  have HNN := Lib.hid hN
  clear ih h hN
  go_enter Tryz.func105, Tryz.ntmps105
  go_wp2_with fail
  go_loopw [9] (fun i wr => ∃ (k : Nat) (r : Sts), i = .int .i64 k ∧ k + r.len = l.len ∧ r.size ≤ n ∧ Hid (∀ b o, p = some ⟨b, o, none⟩ → l.At w N b o → r.At w N b (o + k * 16)) ∧ Hid (l.may = r.may) ∧ Hid (Below w.heap.size w wr)) (fun i _ => l.len - (intOf i).toNat)
  case atStart => exact ⟨0, l, rfl, by omega, hl, Lib.hid fun b o _ h => by rw [Nat.zero_mul]; exact h, Lib.hid rfl, Lib.hid (Below.refl _ _)⟩
  case round =>
    obtain ⟨k, r, rfl, hk, hrs, hat, hE, hB⟩ := hrel
    cases r with
    | nil =>
      simp only [Sts.len] at hk
      have hge : ¬ k < l.len := by omega
      go_wp2_with fail
      go_ret
      exact ⟨ret_bool (by rw [hE.out]; rfl), hB.out⟩
    | cons x r =>
      simp only [Sts.len] at hk
      simp only [Sts.size] at hrs
      have hlt : k < l.len := by omega
      obtain ⟨wo, rfl⟩ : ∃ wo : World, wo = wr := ⟨_, rfl⟩
      rcases S1.out.2 with h30 | ⟨b, o, rfl, hb, ha⟩
      · omega
      obtain ⟨hx, hr⟩ := hat.out b o rfl ha
      have HR := Lib.hid hr
      obtain ⟨s, c1, ok1⟩ := St.At.openP (St.At.later (hB.out.mono HNN.out) (Nat.le_trans HNN.out hB.out.size) x b _ hb hx)
      have hbl : b < wo.heap.size := by have := hB.out.size; have := HNN.out; omega
      obtain ⟨A1, hA1⟩ : ∃ A1, x.cells s = A1 := ⟨_, rfl⟩
      have HZ1 := Lib.hid (show A1.size = 16 by rw [← hA1]; rfl)
      have HO1 := Lib.hid (show A1.all (·.oneCell') = true by rw [← hA1]; exact oneSt _ _)
      have F1 := Lib.hid (show wo.rangeAt b (o + k * 16) A1.toList from fun j z hz => c1 j z (by rw [hA1, ← Array.getElem?_toList]; exact hz))
      have HI1 := Lib.hid (infoSt.trans (by rw [HZ1.out]) : (Tryz.prog.info? 54).map (·.size) = some A1.size)
      obtain ⟨W1, hW1⟩ : ∃ W1, wo.alloc (Obj.cells A1 54) = W1 := ⟨_, rfl⟩
      have HW1 := Lib.hid (show Below wo.heap.size wo W1 by rw [← hW1]; exact (Below.refl _ wo).alloc (Nat.le_refl _) _)
      have F2 := Lib.hid (show W1.rangeAt wo.heap.size 0 A1.toList by rw [← hW1]; exact range_new wo A1 _)
      have HC := Lib.hid (IH.out x (by omega) s wo.heap.size W1 HW1.out.size (ok1.later HW1.out (Nat.le_refl _)))
      unfold St.val at HC
      rw [hA1] at HC
      have HE := Lib.hid (show l.may = (x.may && r.may) by rw [hE.out, Sts.may])
      obtain ⟨m, hm'⟩ : ∃ m, x.may = m := ⟨_, rfl⟩
      rw [hm'] at HE HC
      clear ok1 hA1 c1 hx hr ha hE hm'
      go_wp2_with (first | (refine wpl_load rfl 54 _ rfl b (o + k * 16) rfl A1 _ F1.out Tryz.underlying54 rfl HI1.out ?_) | (refine wpl_store_new rfl 54 _ _ rfl _ A1 _ rfl rfl (by rw [HZ1.out]; rfl) HI1.out HO1.out ?_; rw [hW1]) | (refine wpl_load rfl 54 _ rfl wo.heap.size 0 rfl A1 _ F2.out Tryz.underlying54 rfl HI1.out ?_))
      refine HC.out.mono ?_
      rintro e w2 ⟨rfl, hB2⟩
      have HB3 := Lib.hid (hB.out.trans ((HW1.out.trans (hB2.mono HW1.out.size)).mono hB.out.size))
      clear hB2
      cases m
      · go_wp2_with fail
        go_ret
        exact ⟨ret_bool (by rw [HE.out]; rfl), HB3.out⟩
      · go_wp2_with fail
        go_roundw
        case rel => exact ⟨k + 1, r, by go_num, by omega, by omega, Lib.hid fun b' o' e _ => by cases e; rw [show o + (k + 1) * 16 = o + k * 16 + 16 by omega]; exact HR.out, Lib.hid (by rw [HE.out]; simp), HB3⟩
        case measure => simp [intOf]; omega
end Go.Proofs.YtlhbledakddbbaaGreatDoor
