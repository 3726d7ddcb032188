/- R6, R7 as one. -/
import Derived.Test.YtcadeeldogknmaaR5
import Derived.Test.YtcadeeldogknmaaVK
import Derived.Deep.RegionLaw
import Derived.Deep.CutRange
/- Rewriting the chapter's rows: the deeds. -/
namespace Go.Proofs.Ytcadeeldogknmaa
open Go.RowKit

/-- the rewriter's cells -/
structure RwAt (w : World) (g : Nat) (st : Int) (m : Nat) (laid : Int) : Prop where
  c0 : w.cell? ⟨g, 0, none⟩ = some (.int .u64 st)
  c1 : w.cell? ⟨g, 1, none⟩ = some (.map (some m))
  c2 : w.cell? ⟨g, 2, none⟩ = some (.int .i64 laid)
  z2 : w.frozen? ⟨g, 2, none⟩ = false

set_option maxHeartbeats 1600000 in
theorem picked_A (g m : Nat) (laid : Int) (_q : Option Addr) (b o c : Nat) (w : World) (hr : RwAt w g 1000 m laid) (h : w.cell? ⟨b, o, none⟩ = some (.int .u64 2)) :
    Calls Try.prog 62 #[.pointer (some ⟨g, 0, none⟩), .agg #[.int .i64 3, .int .i64 0, .int .u64 100, .bool true], .slice (some ⟨b, o, none⟩) 1 c] w fun e w' => e = .returned (.int .u64 1116) ∧ Below w.heap.size w w' := by
  obtain ⟨c0, c1, c2, z2⟩ := hr
  have HA := Lib.hid (fun (o : Obj) => (Below.refl w.heap.size w).alloc (Nat.le_refl _) o)
  have k0 : ∀ o, (w.alloc o).cell? ⟨g, 0, none⟩ = some (.int .u64 1000) := fun o => (World.cell?_alloc_past o _ _ (World.block_lt_of_cell? _ _ c0)).trans c0
  have k1 : ∀ o', (w.alloc o').cell? ⟨b, o, none⟩ = some (.int .u64 2) := fun o' => (World.cell?_alloc_past o' _ _ (World.block_lt_of_cell? _ _ h)).trans h
  go_enter Try.func62, Try.ntmps62
  go_wp2_with fail
  go_ret
  exact ⟨rfl, HA.out _⟩

theorem RwAt.later {w w' : World} {g : Nat} {st : Int} {m : Nat} {laid : Int} {N : Nat} (h : RwAt w g st m laid) (hb : Below N w w') (hg : g < N) : RwAt w' g st m laid :=
  ⟨(hb.cell hg).trans h.c0, (hb.cell hg).trans h.c1, (hb.cell hg).trans h.c2, (hb.frozen hg).trans h.z2⟩
theorem RwAt.set {w : World} {g : Nat} {st : Int} {m : Nat} {laid : Int} (h : RwAt w g st m laid) (n : Int) : RwAt (w.setCell ⟨g, 2, none⟩ (.int .i64 n)) g st m n :=
  ⟨(World.cell?_setCell_other _ _ _ _ (by simp)).trans h.c0, (World.cell?_setCell_other _ _ _ _ (by simp)).trans h.c1, World.cell?_setCell_same _ _ _ h.c2, by simpa using h.z2⟩
theorem RwAt.drew {w : World} {g : Nat} {st : Int} {m : Nat} {laid : Int} (h : RwAt w g st m laid) : RwAt w.drew g st m laid := ⟨h.c0, h.c1, h.c2, h.z2⟩
theorem RwAt.lt {w : World} {g : Nat} {st : Int} {m : Nat} {laid : Int} (h : RwAt w g st m laid) : g < w.heap.size := World.block_lt_of_cell? _ _ h.c0

/-- all but block g is as it was -/
structure OnlyG (g : Nat) (w w' : World) : Prop where
  bel : Below g w w'
  block : ∀ k, k ≠ g → k < w.heap.size → w'.heap[k]? = w.heap[k]?
theorem OnlyG.on {g : Nat} {w w1 w2 : World} (h : OnlyG g w w1) (hg : g ≤ w1.heap.size) (hb : Below w1.heap.size w1 w2) : OnlyG g w w2 :=
  ⟨h.bel.trans (hb.mono hg), fun k hk hl => (hb.block k (Nat.lt_of_lt_of_le hl h.bel.size)).trans (h.block k hk hl)⟩
theorem OnlyG.after {g : Nat} {w w1 w2 : World} (hb : Below w.heap.size w w1) (hg : g ≤ w.heap.size) (h : OnlyG g w1 w2) : OnlyG g w w2 :=
  ⟨(hb.mono hg).trans h.bel, fun k hk hl => (h.block k hk (Nat.lt_of_lt_of_le hl hb.size)).trans (hb.block k hl)⟩
theorem OnlyG.cell {g : Nat} {w w' : World} (h : OnlyG g w w') {b j : Nat} (hb : b ≠ g) (hl : b < w.heap.size) : w'.cell? ⟨b, j, none⟩ = w.cell? ⟨b, j, none⟩ := by
  simp only [World.cell?, h.block b hb hl]
theorem OnlyG.frozen {g : Nat} {w w' : World} (h : OnlyG g w w') {b j : Nat} (hb : b ≠ g) (hl : b < w.heap.size) : w'.frozen? ⟨b, j, none⟩ = w.frozen? ⟨b, j, none⟩ := by
  simp only [World.frozen?, h.block b hb hl]
theorem info_u64r : (Try.prog.info? 24).map (fun i => (i.zero, i.size, i.bytes)) = some (some (.int .u64 0), 1, 8) := by kernel_rfl
theorem one_int {x : Int} : ∀ u ∈ [Value.int .u64 x], u.oneCell' = true := by intro u hu; simp at hu; subst hu; rfl
/-- the second row's pick behind its slices -/
def PickA (w : World) (N : Nat) (q : Option Addr) : Prop := Sl N q 1 (Plines w N [[pkA]])

set_option maxRecDepth 100000 in
set_option maxHeartbeats 3200000 in
theorem lay_A (g m N : Nat) (q : Option Addr) (c b o c2 : Nat) (w : World) (hr : RwAt w g 1000 m 0) (hN : N ≤ g) (hb : b < N) (h : w.cell? ⟨b, o, none⟩ = some (.int .u64 2)) (hp : PickA w N q) :
    Calls Try.prog 57 #[.pointer (some ⟨g, 0, none⟩), .slice none 0 0, .agg #[.slice q 1 c, .int .i64 0, .int .i64 2], .slice (some ⟨b, o, none⟩) 1 c2] w fun e w' =>
      (∃ v, e = .returned v ∧ ∃ b2 cc, v = .slice (some ⟨b2, 0, none⟩) 1 cc ∧ (Lf.node 1 [1116] false .nil .nil).In w' w'.heap.size (some ⟨b2, 0, none⟩)) ∧ OnlyG g w w' ∧ RwAt w' g 1000 m 2 := by
  obtain ⟨_, hp0 | ⟨b1, o1, rfl, hb1, ⟨⟨p2, c3, g2, _, hs | ⟨b3, o3, rfl, hb3, ⟨⟨g4, g5, g6, g7⟩, _⟩⟩⟩, _⟩⟩⟩ := hp
  · omega
  · simp at hs
  simp only [pkA] at g4 g5 g6 g7
  have HR := Lib.hid hr
  have MT := Lib.hid must_true
  obtain ⟨c0, c1, c2', z2⟩ := hr
  have hgl := HR.out.lt
  go_enter Try.func57, Try.ntmps57
  go_wp2_with (go_at_call 58; refine (MT.out _).mono ?_; rintro e w' ⟨rfl, rfl⟩)
  have HA := Lib.hid ((Below.refl w.heap.size w).alloc (Nat.le_refl _) (Obj.cells #[.slice (some ⟨b1, o1, none⟩) 1 c, .int .i64 0, .int .i64 2] 83))
  have d2 : (w.alloc (Obj.cells #[.slice (some ⟨b1, o1, none⟩) 1 c, .int .i64 0, .int .i64 2] 83)).cell? ⟨g, 2, none⟩ = some (.int .i64 0) := (World.cell?_alloc_past _ _ _ hgl).trans c2'
  have e2 : (w.alloc (Obj.cells #[.slice (some ⟨b1, o1, none⟩) 1 c, .int .i64 0, .int .i64 2] 83)).frozen? ⟨g, 2, none⟩ = false := (HA.out.frozen hgl).trans z2
  have HX := Lib.hid (show ∀ n : Int, (OnlyG g w ((w.setCell ⟨g, 2, none⟩ (.int .i64 n)).alloc (Obj.cells #[.slice (some ⟨b1, o1, none⟩) 1 c, .int .i64 0, .int .i64 2] 83)).drew ∧ RwAt ((w.setCell ⟨g, 2, none⟩ (.int .i64 n)).alloc (Obj.cells #[.slice (some ⟨b1, o1, none⟩) 1 c, .int .i64 0, .int .i64 2] 83)).drew g 1000 m n ∧ ((w.setCell ⟨g, 2, none⟩ (.int .i64 n)).alloc (Obj.cells #[.slice (some ⟨b1, o1, none⟩) 1 c, .int .i64 0, .int .i64 2] 83)).drew.cell? ⟨w.heap.size, 0, none⟩ = some (.slice (some ⟨b1, o1, none⟩) 1 c)) from fun n =>
    ⟨⟨(((Below.refl g w).setCell (p := ⟨g, 2, none⟩) (Nat.le_refl _) _).alloc (by simp; omega) _).drew, fun k hk hl => (Below.heap_alloc _ _ _ (by simp; omega)).trans (Below.heap_setCell _ _ _ _ hk)⟩, ((HR.out.set n).later ((Below.refl (w.setCell ⟨g, 2, none⟩ (.int .i64 n)).heap.size _).alloc (Nat.le_refl _) _) (by simp; omega)).drew, by simp [go_sem]⟩)
  go_cut [] from 20 to 28 (fun wx => Hid (OnlyG g w wx ∧ RwAt wx g 1000 m 2 ∧ wx.cell? ⟨w.heap.size, 0, none⟩ = some (.slice (some ⟨b1, o1, none⟩) 1 c)))
  case first =>
    go_region
    all_goals go_wp2_with fail
    all_goals go_meet
    all_goals exact Lib.hid (HX.out 2)
  case rest =>
    clear d2 e2 c0 c1 c2' z2 HX HA
    obtain ⟨hB, hR, hc0⟩ := hcut.out
    have HB := Lib.hid hB
    have HR2 := Lib.hid hR
    have HC0 := Lib.hid hc0
    obtain ⟨c0, c1, c2', z2⟩ := hR
    clear hB hcut
    go_wp2_with fail
    go_loopw [1, 38] (fun v i wr => (v = .slice none 0 0 ∧ i = .int .i64 0 ∧ Hid (wr = wc)) ∨ (i = .int .i64 1 ∧ Hid ((∃ b2 cc, v = .slice (some ⟨b2, 0, none⟩) 1 cc ∧ (Lf.node 1 [1116] false .nil .nil).In wr wr.heap.size (some ⟨b2, 0, none⟩)) ∧ OnlyG g w wr ∧ RwAt wr g 1000 m 2)))
      (fun _ i _ => 1 - (intOf i).toNat)
    case atStart => exact .inl ⟨rfl, rfl, Lib.hid rfl⟩
    case round =>
      rcases hrel with ⟨rfl, rfl, hw⟩ | ⟨rfl, hF⟩
      · obtain rfl := hw.out
        clear hw
        have f2 := (HB.out.bel.cell (show b1 < g by omega)).trans g2
        have f4 := (HB.out.bel.cell (show b3 < g by omega)).trans g4
        have f5 := (HB.out.bel.cell (show b3 < g by omega)).trans g5
        have f6 := (HB.out.bel.cell (show b3 < g by omega)).trans g6
        have f7 := (HB.out.bel.cell (show b3 < g by omega)).trans g7
        have fh := (HB.out.bel.cell (show b < g by omega)).trans h
        have hgw := HR2.out.lt
        have OLD := Lib.hid (show ∀ w' : World, Below wr.heap.size wr w' → OnlyG g w w' ∧ RwAt w' g 1000 m 2 ∧ (w'.cell? ⟨b3, o3, none⟩ = some (.int .i64 3) ∧ w'.cell? ⟨b3, o3 + 1, none⟩ = some (.int .i64 0) ∧ w'.cell? ⟨b3, o3 + 2, none⟩ = some (.int .u64 100) ∧ w'.cell? ⟨b3, o3 + 3, none⟩ = some (.bool true)) ∧ w'.cell? ⟨b, o, none⟩ = some (.int .u64 2) from fun w' hb' =>
          ⟨HB.out.on (Nat.le_of_lt hgw) hb', HR2.out.later hb' hgw, ⟨(hb'.cell (by show b3 < wr.heap.size; omega)).trans f4, (hb'.cell (by show b3 < wr.heap.size; omega)).trans f5, (hb'.cell (by show b3 < wr.heap.size; omega)).trans f6, (hb'.cell (by show b3 < wr.heap.size; omega)).trans f7⟩, (hb'.cell (by show b < wr.heap.size; omega)).trans fh⟩)
        have NEW := Lib.hid (show ∀ w' : World, Below (wr.alloc (Obj.cells #[.int .i64 1, .slice none 0 0, .bool false, .slice none 0 0] 47)).heap.size (wr.alloc (Obj.cells #[.int .i64 1, .slice none 0 0, .bool false, .slice none 0 0] 47)) w' → Below wr.heap.size wr w' ∧ (w'.cell? ⟨wr.heap.size, 0, none⟩ = some (.int .i64 1) ∧ w'.cell? ⟨wr.heap.size, 1, none⟩ = some (.slice none 0 0) ∧ w'.cell? ⟨wr.heap.size, 2, none⟩ = some (.bool false) ∧ w'.cell? ⟨wr.heap.size, 3, none⟩ = some (.slice none 0 0)) ∧ w'.frozen? ⟨wr.heap.size, 1, none⟩ = false ∧ wr.heap.size < w'.heap.size from fun w' hb' =>
          ⟨((Below.refl _ wr).alloc (Nat.le_refl _) _).trans (hb'.mono (by simp)), ⟨(hb'.cell (by simp)).trans (by simp [go_sem]), (hb'.cell (by simp)).trans (by simp [go_sem]), (hb'.cell (by simp)).trans (by simp [go_sem]), (hb'.cell (by simp)).trans (by simp [go_sem])⟩, (hb'.frozen (by simp)).trans (by simp [go_sem]), by have := hb'.size; simp at this; omega⟩)
        have CL := Lib.hid (show ∀ w2 : World, Below (wr.alloc (Obj.cells #[.int .i64 1, .slice none 0 0, .bool false, .slice none 0 0] 47)).heap.size (wr.alloc (Obj.cells #[.int .i64 1, .slice none 0 0, .bool false, .slice none 0 0] 47)) w2 → Calls Try.prog 62 #[.pointer (some ⟨g, 0, none⟩), .agg #[.int .i64 3, .int .i64 0, .int .u64 100, .bool true], .slice (some ⟨b, o, none⟩) 1 c2] w2 fun e w' => e = .returned (.int .u64 1116) ∧ Below w2.heap.size w2 w' from fun w2 hb2 =>
          picked_A g m 2 none b o c2 w2 (OLD.out _ (NEW.out _ hb2).1).2.1 (OLD.out _ (NEW.out _ hb2).1).2.2.2)
        have NEWB := Lib.hid (show ∀ u : World, u = wr.alloc (Obj.cells #[.int .i64 1, .slice none 0 0, .bool false, .slice none 0 0] 47) → ∀ o : Obj, Below (wr.alloc (Obj.cells #[.int .i64 1, .slice none 0 0, .bool false, .slice none 0 0] 47)).heap.size (wr.alloc (Obj.cells #[.int .i64 1, .slice none 0 0, .bool false, .slice none 0 0] 47)) (u.alloc o).drew from fun u hu o => by rw [hu]; exact ((Below.refl _ _).alloc (Nat.le_refl _) o).drew)
        have GA := Lib.hid (show ∀ (w2 w3 : World) (o : Obj) (gg cc : Nat), Below (wr.alloc (Obj.cells #[.int .i64 1, .slice none 0 0, .bool false, .slice none 0 0] 47)).heap.size (wr.alloc (Obj.cells #[.int .i64 1, .slice none 0 0, .bool false, .slice none 0 0] 47)) w2 → (w2.alloc o).grownBy w3 none → w3.ownsRow (wr.alloc (Obj.cells #[.int .i64 1, .slice none 0 0, .bool false, .slice none 0 0] 47)).heap.size 24 1 (.slice (some ⟨gg, 0, none⟩) 1 cc) 1 [.int .u64 1116] →
            OnlyG g w (w3.setCell ⟨wr.heap.size, 1, none⟩ (.slice (some ⟨gg, 0, none⟩) 1 cc)) ∧ RwAt (w3.setCell ⟨wr.heap.size, 1, none⟩ (.slice (some ⟨gg, 0, none⟩) 1 cc)) g 1000 m 2 ∧ (w3.setCell ⟨wr.heap.size, 1, none⟩ (.slice (some ⟨gg, 0, none⟩) 1 cc)).cell? ⟨wr.heap.size, 0, none⟩ = some (.int .i64 1) ∧ (w3.setCell ⟨wr.heap.size, 1, none⟩ (.slice (some ⟨gg, 0, none⟩) 1 cc)).cell? ⟨wr.heap.size, 2, none⟩ = some (.bool false) ∧ (w3.setCell ⟨wr.heap.size, 1, none⟩ (.slice (some ⟨gg, 0, none⟩) 1 cc)).cell? ⟨wr.heap.size, 3, none⟩ = some (.slice none 0 0) ∧
              ∃ bi ci, (w3.setCell ⟨wr.heap.size, 1, none⟩ (.slice (some ⟨gg, 0, none⟩) 1 cc)).cell? ⟨wr.heap.size, 1, none⟩ = some (.slice (some ⟨bi, 0, none⟩) 1 ci) ∧ (w3.setCell ⟨wr.heap.size, 1, none⟩ (.slice (some ⟨gg, 0, none⟩) 1 cc)).cell? ⟨bi, 0, none⟩ = some (.int .u64 1116) from fun w2 w3 o gg cc hb2 hg hown => by
          have hb3 : Below (wr.alloc (Obj.cells #[.int .i64 1, .slice none 0 0, .bool false, .slice none 0 0] 47)).heap.size (wr.alloc (Obj.cells #[.int .i64 1, .slice none 0 0, .bool false, .slice none 0 0] 47)) w3 := (hb2.alloc hb2.size o).grown hg (by have := hb2.size; simp at this ⊢; omega) (by intro k hk; cases hk)
          obtain ⟨hbo, ⟨x0, x1, x2, x3⟩, xz, hlx⟩ := NEW.out _ hb3
          obtain ⟨hb4, hr4, _, _⟩ := OLD.out _ hbo
          have hgg := (hown.lt gg rfl).1
          have hgg2 : wr.heap.size < gg := by simp at hgg; omega
          refine ⟨(OLD.out _ (hbo.setCell (p := ⟨wr.heap.size, 1, none⟩) (Nat.le_refl _) _)).1, (OLD.out _ (hbo.setCell (p := ⟨wr.heap.size, 1, none⟩) (Nat.le_refl _) _)).2.1, (World.cell?_setCell_other _ _ _ _ (by simp)).trans x0, (World.cell?_setCell_other _ _ _ _ (by simp)).trans x2, (World.cell?_setCell_other _ _ _ _ (by simp)).trans x3, gg, cc, World.cell?_setCell_same _ _ _ x1, ?_⟩
          rw [World.cell?_setCell_other _ _ _ _ (by intro e; injection e with e1; omega)]
          exact hown.cellAt 0 (by decide))
        clear g2 g4 g5 g6 g7 h
        go_wp2_with fail
        go_loopw [45] (fun i wr' => (i = .int .i64 0 ∧ Hid (wr' = wr.alloc (Obj.cells #[.int .i64 1, .slice none 0 0, .bool false, .slice none 0 0] 47))) ∨
            (i = .int .i64 1 ∧ Hid (OnlyG g w wr' ∧ RwAt wr' g 1000 m 2 ∧ wr'.cell? ⟨wr.heap.size, 0, none⟩ = some (.int .i64 1) ∧ wr'.cell? ⟨wr.heap.size, 2, none⟩ = some (.bool false) ∧ wr'.cell? ⟨wr.heap.size, 3, none⟩ = some (.slice none 0 0) ∧
              ∃ bi ci, wr'.cell? ⟨wr.heap.size, 1, none⟩ = some (.slice (some ⟨bi, 0, none⟩) 1 ci) ∧ wr'.cell? ⟨bi, 0, none⟩ = some (.int .u64 1116))))
          (fun i _ => 1 - (intOf i).toNat)
        case atStart => exact .inl ⟨rfl, Lib.hid rfl⟩
        case round =>
          rcases hrel with ⟨rfl, hw⟩ | ⟨rfl, hF⟩
          · have HB0 := Lib.hid (NEW.out wr (by have e := hw.out; rw [e]; exact Below.refl _ _))
            obtain ⟨hbo, ⟨x0, x1, x2, x3⟩, xz, hlx⟩ := HB0.out
            obtain ⟨_, ⟨c0, c1, c2', z2⟩, ⟨h4, h5, h6, h7⟩, h8⟩ := OLD.out _ hbo
            have NW := Lib.hid (NEWB.out wr hw.out)
            have X1 := Lib.hid (fun (w2 : World) (hb : Below wr.heap.size wr w2) => (show _ ∧ _ from ⟨(hb.cell (World.block_lt_of_cell? _ _ x1)).trans x1, (hb.frozen (World.block_lt_of_cell? _ _ x1)).trans xz⟩))
            obtain ⟨j0, ji, jz0, jz1, jz2⟩ := info_parts info_u64r
            have JZ := Lib.hid (And.intro ji (And.intro jz0 (And.intro jz1 jz2)))
            have x1a := fun (o : Obj) => (World.cell?_alloc_past o _ _ (World.block_lt_of_cell? _ _ x1)).trans x1
            have HWX := Lib.hid (fun (o : Obj) => ((Below.refl wr.heap.size wr).alloc (Nat.le_refl _) o).drew)
            clear hbo f4 f5 f6 f7 fh f2 HB0 ji jz0 jz1 jz2
            go_wp2_with fail
            go_region_law (first | (refine step_append_own rfl (.tmp 50) (.tmp 55) 44 rfl _ 24 j0 (.int .u64 0) 1 8 Try.underlying44 JZ.out.1 JZ.out.2.1 JZ.out.2.2.1 JZ.out.2.2.2 rfl (by decide) (.slice none 0 0) 0 [] (by simp [Act.eval]) (World.ownsRow_nil _ _ _ _) ⟨w2.heap.size, 0, none⟩ 1 1 [.int .u64 1116] (by simp [Act.eval]) rfl (one_news _ _ _) one_int (by decide) (by decide) (show _ ≤ _ from Nat.le_trans hbB.size (by simp)) ?_; intro v' w3 hown' hgrow; obtain ⟨gg, cc, rfl⟩ := own_form hown' (by omega); obtain ⟨x1'', xz''⟩ := grown_keep x1' xz' hgrow (by simp [Value.ownBlock]); have HG := Lib.hid (GA.out _ _ _ _ _ hbB hgrow hown'); clear hown' hgrow) | (refine step_call_fn rfl 62 #[.pointer (some ⟨g, 0, none⟩), .agg #[.int .i64 3, .int .i64 0, .int .u64 100, .bool true], .slice (some ⟨b, o, none⟩) 1 c2] (by simp [Act.eval, go_sem]) (CL.out _ (NW.out _)) ?_; rintro e w2 ⟨rfl, hB5⟩; refine ⟨_, rfl, ?_⟩; have hbB := (NW.out _).trans (hB5.mono (NW.out _).size); obtain ⟨x1', xz'⟩ := X1.out _ ((HWX.out _).trans (hB5.mono (HWX.out _).size)); have x1b := fun (o : Obj) => (World.cell?_alloc_past o _ _ (World.block_lt_of_cell? _ _ x1')).trans x1'))
            all_goals go_wp2_with fail
            all_goals go_roundw
            all_goals first
              | exact Lib.hid HG.out
              | (simp [intOf]; done)
              | exact .inr ⟨by go_num, HG⟩
          · obtain ⟨hb9, hr9, x0, x2, x3, bi, ci, x1, y0⟩ := hF.out
            clear hF
            have hbi : bi < wr.heap.size := World.block_lt_of_cell? _ _ y0
            have FIN := Lib.hid (show ∀ cs : Array Value, (∀ j u, #[Value.int .i64 1, .slice (some ⟨bi, 0, none⟩) 1 ci, .bool false, .slice none 0 0][j]? = some u → cs[j]? = some u) →
                (Lf.node 1 [1116] false .nil .nil).In ((wr.alloc (Obj.cells #[.int .i64 1, .slice (some ⟨bi, 0, none⟩) 1 ci, .bool false, .slice none 0 0] 47)).alloc (Obj.cells cs 47)).drew ((wr.alloc (Obj.cells #[.int .i64 1, .slice (some ⟨bi, 0, none⟩) 1 ci, .bool false, .slice none 0 0] 47)).alloc (Obj.cells cs 47)).drew.heap.size (some ⟨wr.heap.size + 1, 0, none⟩) ∧
                OnlyG g w ((wr.alloc (Obj.cells #[.int .i64 1, .slice (some ⟨bi, 0, none⟩) 1 ci, .bool false, .slice none 0 0] 47)).alloc (Obj.cells cs 47)).drew ∧ RwAt ((wr.alloc (Obj.cells #[.int .i64 1, .slice (some ⟨bi, 0, none⟩) 1 ci, .bool false, .slice none 0 0] 47)).alloc (Obj.cells cs 47)).drew g 1000 m 2 from fun cs hcs => by
              have hB2 : Below wr.heap.size wr ((wr.alloc (Obj.cells #[.int .i64 1, .slice (some ⟨bi, 0, none⟩) 1 ci, .bool false, .slice none 0 0] 47)).alloc (Obj.cells cs 47)).drew := (((Below.refl _ wr).alloc (Nat.le_refl _) _).alloc (by simp) _).drew
              have hcl : ∀ j u, cs[j]? = some u → ((wr.alloc (Obj.cells #[.int .i64 1, .slice (some ⟨bi, 0, none⟩) 1 ci, .bool false, .slice none 0 0] 47)).alloc (Obj.cells cs 47)).drew.cell? ⟨wr.heap.size + 1, j, none⟩ = some u := fun j u hj => by simp [go_sem, hj]
              have hy := (hB2.cell hbi).trans y0
              refine ⟨⟨by decide, .inr ⟨_, _, rfl, by simp, hcl 0 _ (hcs 0 _ rfl), ⟨_, _, hcl 1 _ (hcs 1 _ rfl), by decide, .inr ⟨_, _, rfl, by simp; omega, hy, trivial⟩⟩, hcl 2 _ (hcs 2 _ rfl), ⟨_, _, hcl 3 _ (hcs 3 _ rfl), by decide, .inl rfl⟩, trivial⟩⟩, hb9.on (Nat.le_of_lt hr9.lt) hB2, hr9.later hB2 hr9.lt⟩)
            clear y0 hbi
            go_wp2_with fail
            go_roundw
            case rel =>
              refine .inr ⟨rfl, Lib.hid ⟨⟨_, _, rfl, ?_⟩, ?_, ?_⟩⟩
              · exact (FIN.out _ (fun j u hj => by rw [Array.getElem?_append_left (by have := (Array.getElem?_eq_some_iff.1 hj).1; exact this)]; exact hj)).1
              · exact (FIN.out _ (fun j u hj => by rw [Array.getElem?_append_left (by have := (Array.getElem?_eq_some_iff.1 hj).1; exact this)]; exact hj)).2.1
              · exact (FIN.out _ (fun j u hj => by rw [Array.getElem?_append_left (by have := (Array.getElem?_eq_some_iff.1 hj).1; exact this)]; exact hj)).2.2
            case measure => simp [intOf]
      · obtain ⟨⟨b2, cc, rfl, hin⟩, hb9, hr9⟩ := hF.out
        clear hF
        go_wp2_with fail
        go_ret
        exact ⟨⟨_, rfl, b2, cc, rfl, hin⟩, hb9, hr9⟩
end Go.Proofs.Ytcadeeldogknmaa
/- Rewriting the chapter's rows: lists. -/
namespace Go.Proofs.Ytcadeeldogknmaa
open Go.RowKit

theorem step_call_panic {P : Program} {ops : Array Oper} {o : Oper} {a : Act} {w : World} {K : Act → World → Prop} {Q : Exit → Act → World → Prop} {E : Prop} {R : Ending → World → Prop}
    (hgd : Region.wanted o (yielded ops a.tmps) = true) (f : FuncId) (args : Array Value) (he : (execOp a.eval o).run P w = .ok (.enter f args) w) (hc : Calls P f args w R) (h : ∀ e w', R e w' → ∃ ch, e = .panicked ch ∧ Q (.panic ch) a w')
    (_d : wpAny P Region.Mode.any #[] (fun _ _ _ => True) 0 #[] a w) :
    if Region.wanted o (yielded ops a.tmps) = true then Oper.wp P o a w K Q else E := by
  rw [if_pos hgd]
  unfold Oper.wp
  rw [he, Oper.upon_enter]
  exact hc.mono fun e w' hr => by obtain ⟨ch, rfl, hk⟩ := h e w' hr; exact hk

set_option maxRecDepth 100000 in
set_option maxHeartbeats 3200000 in
theorem way_B (g _m gr bl ol : Nat) (_q4 : Option Addr) (_c4 _d4 : Nat) (br : Bool) (v : Value) (pv : Value) (gi sz : Int) (sv : Value) (w : World)
    (hrec : Rec w gr 4 true pv gi sz sv) (h0 : w.cell? ⟨bl, ol, none⟩ = some (.int .i64 2)) (h2 : w.cell? ⟨bl, ol + 2, none⟩ = some (.bool false)) :
    Calls Try.prog 39 #[.pointer (some ⟨g, 0, none⟩), v, .pointer (some ⟨gr, 0, none⟩), .pointer (some ⟨bl, ol, none⟩), .bool br] w fun e w' => e = panicked 2 ∧ Below w.heap.size w w' := by
  obtain ⟨c0, c1, _, _, _, _⟩ := hrec
  have MT := Lib.hid must_false
  have HB := Lib.hid (Below.refl w.heap.size w)
  go_enter Try.func39, Try.ntmps39
  have HBd := Lib.hid HB.out.drew
  go_wp2_with fail
  go_region_law? (refine step_call_panic (by simp [Region.wanted, go_sem]) 58 #[.bool false] (by simp [Act.eval, Act.put, go_sem]) (MT.out _) (by rintro e w' ⟨rfl, rfl⟩; exact ⟨_, rfl, rfl, rfl, HBd.out⟩) ?_)
  all_goals trivial

end Go.Proofs.Ytcadeeldogknmaa
