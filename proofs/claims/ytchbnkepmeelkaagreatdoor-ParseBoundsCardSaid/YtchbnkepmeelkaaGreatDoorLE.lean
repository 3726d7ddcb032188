/- A scan that lays its tokens behind one another: its walk. -/
import Derived.Test.YtchbnkepmeelkaaGreatDoorLC
import Derived.WalkMore
import Derived.Deep.CutBlock
import Derived.Deep.CutRange
namespace Go.Proofs.YtchbnkepmeelkaaGreatDoor.Lx
open Go.RowKit

/-- what a scan hands back that All goes by -/
def ScanIs (s : ByteArray) (B c : Nat) (e : Ending) (w' : World) : Prop :=
  e = .returned (errV (lexAll s.data.toList).2) ∧ TokL w' B c ((lexAll s.data.toList).1.map (·.2))
theorem scan_is {s : ByteArray} {B c : Nat} {w' : World} {x : Option (Nat × Nat)} {ts : List (Nat × Tk)} {v : Value} (h : lexAll s.data.toList = (ts, x)) (hv : errV x = v) (hT : TokL w' B c (ts.map (·.2))) : ScanIs s B c (.returned v) w' :=
  ⟨by rw [h, ← hv], by rw [h]; exact hT⟩
theorem tok_of {s : ByteArray} {a f L la : Nat} {ds : List (Nat × Tk)} (h : PlainSt s.data.toList a f L la ds) : ∃ t : Tk, tokAt s.data.toList a = t ∧ t.kind = oneK (s.data.toList.drop a) ∧ t.text = oneT (s.data.toList.drop a) ∧ t.word = oneX (s.data.toList.drop a) ∧ t.line = L ∧ (t.col : Int) = (a : Int) - (la : Int) + 1 := by
  obtain ⟨C, h1, h2, _⟩ := h.tok_eq
  exact ⟨_, h1, rfl, rfl, rfl, rfl, h2⟩

set_option maxRecDepth 100000 in
set_option maxHeartbeats 3200000 in
theorem scan_long (s : ByteArray) (fv : Value) (w : World) (h : 65536 < s.size) (hs : s.size ≤ 281474976710656) :
    Calls Tryz.prog 213 #[.string s, fv] w fun e w' => e = .returned (.iface 282 (.agg #[.int .i64 0, .int .i64 3])) ∧ Below w.heap.size w w' := by
  go_enter Tryz.func213, Tryz.ntmps213
  go_wp2_with fail
  go_step3
  go_wp2_with fail
  rw [Exit.noGoto_ret]
  go_ret
  exact ⟨rfl, (Below.refl _ _).alloc (Nat.le_refl _) _⟩

set_option maxRecDepth 100000 in
set_option maxHeartbeats 6400000 in
theorem scanAll_any (s : ByteArray) (B c : Nat) (w : World) (hs : s.size ≤ 65536) (hT : TokL w B c []) (hB : B ≤ w.heap.size) (hBc : B ≤ c) (h3B : 6 < B) (hGl : Glob w) :
    Calls Tryz.prog 213 #[.string s, .func (.func 214) #[] #[.pointer (some ⟨c, 0, none⟩)]] w fun e w' => ScanIs s B c e w' ∧ Kp B c w w' := by
  have HT := Lib.hid hT
  have HGl := Lib.hid hGl
  have hcl : c < w.heap.size := by obtain ⟨v, h, _⟩ := hT; exact lt_of_block h
  clear hT hGl
  go_enter Tryz.func213, Tryz.ntmps213
  go_wp2_with fail
  go_step3
  go_wp2_with fail
  refine (signs_any _).mono ?_
  rintro e w1 ⟨m, rfl, hm, hmb, hb1⟩
  have k1 : w1.heap[w.heap.size + 1]? = some (.cells #[.int .i64 ((0 : Nat) : Int)] 3 (0, 0)) := by
    rw [hb1.block _ (by simp)]; have := heap_alloc_new (w.alloc (.cells #[.string s] 9)) (.cells #[.int .i64 ((0 : Nat) : Int)] 3 (0, 0)); simpa using this
  have k2 : w1.heap[w.heap.size]? = some (.cells #[.string s] 9 (0, 0)) := by
    rw [hb1.block _ (by simp; omega), Below.heap_alloc _ _ _ (by simp)]; exact heap_alloc_new w _
  have HW0 : Hid (WorldSt s w w1 B c (w.heap.size + 1) w.heap.size m 0 []) := Lib.hid
    { toks := (HT.out.below (((Below.refl _ w).alloc (Nat.le_refl _) _).alloc (by simp) _)).below hb1,
      atc := k1, txt := k2, mp := hm,
      keep := (Kp.of_below (((Below.refl _ w).alloc (Nat.le_refl _) _).alloc (by simp) _)).trans (Kp.of_below hb1),
      ne1 := by omega, ne2 := by omega, ne3 := by simp at hmb; omega, bB := ⟨hB, hBc, by omega⟩ }
  have hbc : w.heap.size ≠ c := by omega
  have hmc : m ≠ c := by simp at hmb; omega
  have HNc := Lib.hid (And.intro hbc hmc)
  have HB3 := Lib.hid (And.intro hB (And.intro hBc h3B))
  clear hm hmb hb1 HT k1 k2 hcl hbc hmc hB hBc h3B
  go_wp2_with fail
  go_step3
  go_wp2_with fail
  generalize w.heap.size + 1 = ba at HW0 ⊢
  generalize w.heap.size = bt at HW0 HNc ⊢
  go_loopg [5, 7, 8] (s.size) (fun g x5 x7 x8 wr => ∃ (a f L la : Nat) (ds : List (Nat × Tk)), a + g = s.size ∧ x5 = .nilIface ∧ x7 = .int .i64 L ∧ x8 = .int .i64 la ∧ Hid (PlainSt s.data.toList a f L la ds) ∧ Hid (WorldSt s w wr B c ba bt m a (ds.map (·.2))))
  case atStart => exact ⟨0, s.data.toList.length, 1, 0, [], by omega, rfl, rfl, rfl, Lib.hid (PlainSt.start _), HW0⟩
  case round =>
    obtain ⟨a, f, L, la, ds, hag, rfl, rfl, rfl, hP, hW⟩ := hrel
    have cA := cell_of_one hW.out.atc
    have fA := free_of_one hW.out.atc
    have cT := cell_of_one hW.out.txt
    obtain ⟨hL, hla, hds⟩ := hP.out.bounds
    by_cases hlt : a < s.size
    · have hltl : a < s.data.toList.length := by rw [← size_len]; exact hlt
      obtain ⟨x, hx⟩ : ∃ x, s[a]'hlt = x := ⟨_, rfl⟩
      have hxl : s.data.toList[a]'hltl = x := hx
      have hxd : (s.data.toList.drop a).headD 0 = x := by rw [drop_head hltl]; exact hxl
      have hxb : x.toNat < 256 := x.toNat_lt
      obtain ⟨g', rfl⟩ : ∃ g', gk = g' + 1 := ⟨gk - 1, by omega⟩
      by_cases h10 : x.toNat = 10
      · obtain ⟨f', hP'⟩ := hP.out.newline hltl (by rw [hxl]; exact h10)
        have HP := Lib.hid hP'
        have e10 : ((x.toNat : Int) == 10) = true := by rw [h10]; rfl
        clear hP' hltl hxl hxd
        go_wp2_with fail
        go_roundg g'
        case rel => exact ⟨a + 1, f', L + 1, a + 1, ds, by omega, rfl, by go_num, by go_num, HP, Lib.hid (hW.out.move ((But.refl _ _).setCell _ _) (one_setCell hW.out.atc))⟩
        case measure => omega
      by_cases h32 : x.toNat = 32
      · obtain ⟨f', hP'⟩ := hP.out.blank hltl (by rw [hxl]; simp [isBlank, h32]) (by rw [hxl]; exact h10)
        have HP := Lib.hid hP'
        have e10 : ((x.toNat : Int) == 10) = false := by simp; omega
        have e32 : ((x.toNat : Int) == 32) = true := by rw [h32]; rfl
        clear hP' hltl hxl hxd
        go_wp2_with fail
        go_roundg g'
        case rel => exact ⟨a + 1, f', L, la, ds, by omega, rfl, rfl, rfl, HP, Lib.hid (hW.out.move ((But.refl _ _).setCell _ _) (one_setCell hW.out.atc))⟩
        case measure => omega
      by_cases h9 : x.toNat = 9
      · obtain ⟨f', hP'⟩ := hP.out.blank hltl (by rw [hxl]; simp [isBlank, h9]) (by rw [hxl]; exact h10)
        have HP := Lib.hid hP'
        have e10 : ((x.toNat : Int) == 10) = false := by simp; omega
        have e32 : ((x.toNat : Int) == 32) = false := by simp; omega
        have e9 : ((x.toNat : Int) == 9) = true := by rw [h9]; rfl
        clear hP' hltl hxl hxd
        go_wp2_with fail
        go_roundg g'
        case rel => exact ⟨a + 1, f', L, la, ds, by omega, rfl, rfl, rfl, HP, Lib.hid (hW.out.move ((But.refl _ _).setCell _ _) (one_setCell hW.out.atc))⟩
        case measure => omega
      by_cases h13 : x.toNat = 13
      · obtain ⟨f', hP'⟩ := hP.out.blank hltl (by rw [hxl]; simp [isBlank, h13]) (by rw [hxl]; exact h10)
        have HP := Lib.hid hP'
        have e10 : ((x.toNat : Int) == 10) = false := by simp; omega
        have e32 : ((x.toNat : Int) == 32) = false := by simp; omega
        have e9 : ((x.toNat : Int) == 9) = false := by simp; omega
        have e13 : ((x.toNat : Int) == 13) = true := by rw [h13]; rfl
        clear hP' hltl hxl hxd
        go_wp2_with fail
        go_roundg g'
        case rel => exact ⟨a + 1, f', L, la, ds, by omega, rfl, rfl, rfl, HP, Lib.hid (hW.out.move ((But.refl _ _).setCell _ _) (one_setCell hW.out.atc))⟩
        case measure => omega
      by_cases h35 : x.toNat = 35
      · obtain ⟨f', hP'⟩ := hP.out.note hltl (by rw [hxl]; exact h35)
        have HP := Lib.hid hP'
        have e10 : ((x.toNat : Int) == 10) = false := by simp; omega
        have e32 : ((x.toNat : Int) == 32) = false := by simp; omega
        have e9 : ((x.toNat : Int) == 9) = false := by simp; omega
        have e13 : ((x.toNat : Int) == 13) = false := by simp; omega
        have e35 : ((x.toNat : Int) == 35) = true := by rw [h35]; rfl
        have hrl := runLen_le isNote (s.data.toList.drop a)
        rw [List.length_drop, ← size_len] at hrl
        have hrp : 0 < runLen isNote (s.data.toList.drop a) := by
          rw [List.drop_eq_getElem_cons hltl, runLen, List.takeWhile_cons, if_pos (by rw [hxl]; simp [isNote, h35])]; simp
        have HC := Lib.hid (passNote_any s a ba bt wr (by omega) (by omega) hW.out.atc cT hW.out.ne2)
        clear hP' hltl hxl hxd
        generalize runLen isNote (s.data.toList.drop a) = n at HP HC hrl hrp
        go_wp2_with fail
        refine HC.out.mono ?_
        rintro e w2 ⟨⟨rfl, hA2⟩, hB2⟩
        have HW2 := Lib.hid (hW.out.move hB2 hA2)
        clear hA2 hB2 cA fA cT
        go_wp2_with fail
        go_roundg (s.size - (a + n))
        case rel => exact ⟨a + n, f', L, la, ds, by omega, rfl, rfl, rfl, HP, HW2⟩
        case measure => omega
      have h10' := h10
      have hb : isBlank x = false := by simp [isBlank, h10, h32, h9, h13]
      have e10 : ((x.toNat : Int) == 10) = false := by simp; omega
      have e32 : ((x.toNat : Int) == 32) = false := by simp; omega
      have e9 : ((x.toNat : Int) == 9) = false := by simp; omega
      have e13 : ((x.toNat : Int) == 13) = false := by simp; omega
      have e35 : ((x.toNat : Int) == 35) = false := by simp; omega
      have hbaz := lt_of_block hW.out.atc
      have hbtz := lt_of_block hW.out.txt
      have hdn : s.data.toList.drop a ≠ [] := by rw [List.drop_eq_getElem_cons hltl]; exact List.cons_ne_nil _ _
      have hBa := Lib.hid (But.of_below (g := ba) ((Below.refl _ wr).alloc (Nat.le_refl _) (.cells #[.int .i64 0, .string ⟨#[]⟩, .int .u64 0, .int .i64 0, .int .i64 0] 156)))
      have hA0 := Lib.hid (show (wr.alloc (.cells #[.int .i64 0, .string ⟨#[]⟩, .int .u64 0, .int .i64 0, .int .i64 0] 156)).heap[ba]? = some (.cells #[.int .i64 a] 3 (0, 0)) by rw [Below.heap_alloc _ _ _ hbaz]; exact hW.out.atc)
      have hT0 := Lib.hid (show (wr.alloc (.cells #[.int .i64 0, .string ⟨#[]⟩, .int .u64 0, .int .i64 0, .int .i64 0] 156)).cell? ⟨bt, 0, none⟩ = some (.string s) by rw [World.cell?_alloc_lt _ _ ⟨bt, 0, none⟩ hbtz]; exact cT)
      have HGa := Lib.hid (show Glob (wr.alloc (.cells #[.int .i64 0, .string ⟨#[]⟩, .int .u64 0, .int .i64 0, .int .i64 0] 156)) from (HGl.out.later HB3.out.2.2 (hW.out.keep.below HB3.out.2.1 HB3.out.1)).later (n := wr.heap.size) (by have := HB3.out; have := hW.out.keep.size; omega) ((Below.refl _ wr).alloc (Nat.le_refl _) _))
      have hg3 : 6 < ba ∧ 6 < wr.heap.size := by have := HB3.out; have := hW.out.bB; omega
      have HC0 := Lib.hid (fun w => part_any x w)
      obtain ⟨t, ht, hk, htx, hwd, rfl, hcol⟩ := tok_of hP.out
      have HSh := Lib.hid (fun w h h2 => all1_any (ds.map (·.2)) t a B c w h (by rw [List.length_map]; omega) h2)
      rw [hcol] at HSh
      have hte : ds.map (·.2) ++ [t] = (ds ++ [(a, t)]).map (·.2) := by simp
      have hWr := HB3.out.1
      cases hp : isPart x
      case true =>
        have hpd : isPart ((s.data.toList.drop a).headD 0) = true := by rw [hxd]; exact hp
        have hoN : oneN (s.data.toList.drop a) = runLen isPart (s.data.toList.drop a) := by rw [oneN, if_pos hpd]
        have hrl := runLen_le isPart (s.data.toList.drop a)
        rw [List.length_drop, ← size_len] at hrl
        have hrp : 0 < runLen isPart (s.data.toList.drop a) := by
          rw [List.drop_eq_getElem_cons hltl, runLen, List.takeWhile_cons, if_pos (by rw [hxl]; exact hp)]; simp
        have hsz : (s.extract a (a + runLen isPart (s.data.toList.drop a))).size = runLen isPart (s.data.toList.drop a) := by rw [size_len, word_drop s a hpd]; rfl
        rw [hp] at HC0
        have HC := Lib.hid (fun w hA hT => passWord_any s a ba bt w (by omega) (by omega) hA hT hW.out.ne2)
        have hwt := fun w hG => wordToken_any (s.extract a (a + runLen isPart (s.data.toList.drop a))) w (by omega) (by omega) hG
        by_cases he : oneE (s.data.toList.drop a) = 0
        · obtain ⟨f', hP'⟩ := hP.out.token hltl (by rw [hxl]; exact hb) (by rw [hxl]; exact h35) he
          rw [hoN, ht] at hP'
          have HP := Lib.hid hP'
          rw [word_ok hpd he, ← hk, ← htx, ← hwd] at hwt
          have HWt := Lib.hid hwt
          have HTe := Lib.hid hte
          clear hte h10' h10 h32 h9 h13 h35 ht
          clear hP' hltl hxl hxd hwt hsz he hk htx hwd hpd hp hoN hdn hb hcol
          generalize runLen isPart (s.data.toList.drop a) = n at HP HC HWt hrl hrp
          go_wp2_with fail
          refine (HC0.out _).mono ?_
          rintro e w' ⟨rfl, rfl⟩
          go_wp2_with fail
          refine (HC.out _ hA0.out hT0.out).mono ?_
          rintro e w2 ⟨⟨rfl, hA2⟩, hB2⟩
          have HG2 := Lib.hid (HGa.out.later (n := 7) (by omega) (hB2.below (B := 7) (by omega) (by simp; omega)))
          go_wp2_with fail
          refine (HWt.out _ HG2.out).mono ?_
          rintro e w3 ⟨rfl, hB3⟩
          have hBx : But ba (wr.alloc (.cells #[.int .i64 0, .string ⟨#[]⟩, .int .u64 0, .int .i64 0, .int .i64 0] 156)) w3 := hB2.later hB3
          have HBB := Lib.hid (hBa.out.trans hBx)
          have HA3 := Lib.hid ((hB3.block ba (lt_of_block hA2)).trans hA2)
          have HC3 := Lib.hid ((TokCells.new wr).later hbaz hBx)
          obtain ⟨d0, d1, d2, d3, d4, z0, z1, z2, z3, z4⟩ := HC3.out
          clear hB2 hB3 hBx hA2 cA fA cT
          go_upto_region 26 with fail
          have HC4 := Lib.hid (HC3.out.set (.int .i64 t.kind) (.string (str t.text)) (.int .u64 t.word) (.int .i64 0) (.int .i64 0))
          have HB4 := Lib.hid (show But ba wr (((((w3.setCell ⟨wr.heap.size, 0, none⟩ (.int .i64 t.kind)).setCell ⟨wr.heap.size, 1, none⟩ (.string (str t.text))).setCell ⟨wr.heap.size, 2, none⟩ (.int .u64 t.word)).setCell ⟨wr.heap.size, 3, none⟩ (.int .i64 0)).setCell ⟨wr.heap.size, 4, none⟩ (.int .i64 0)) from (((((HBB.out.setNew (p := ⟨wr.heap.size, 0, none⟩) (Nat.le_refl _) _).setNew (p := ⟨wr.heap.size, 1, none⟩) (Nat.le_refl _) _).setNew (p := ⟨wr.heap.size, 2, none⟩) (Nat.le_refl _) _).setNew (p := ⟨wr.heap.size, 3, none⟩) (Nat.le_refl _) _).setNew (p := ⟨wr.heap.size, 4, none⟩) (Nat.le_refl _) _))
          have HA4 := Lib.hid ((heap_5 w3 wr.heap.size ba (Nat.ne_of_lt hbaz) (.int .i64 t.kind) (.string (str t.text)) (.int .u64 t.word) (.int .i64 0) (.int .i64 0)).trans HA3.out)
          generalize (((((w3.setCell ⟨wr.heap.size, 0, none⟩ (.int .i64 t.kind)).setCell ⟨wr.heap.size, 1, none⟩ (.string (str t.text))).setCell ⟨wr.heap.size, 2, none⟩ (.int .u64 t.word)).setCell ⟨wr.heap.size, 3, none⟩ (.int .i64 0)).setCell ⟨wr.heap.size, 4, none⟩ (.int .i64 0)) = w4 at HC4 HB4 HA4 ⊢
          clear d0 d1 d2 d3 d4 z0 z1 z2 z3 z4 HBB HA3 HC3
          obtain ⟨d0, d1, d2, d3, d4, z0, z1, z2, z3, z4⟩ := HC4.out
          go_upto_region 29 with fail
          have HC5 := Lib.hid (HC4.out.place (.int .i64 t.line) (.int .i64 ((a : Int) - (la : Int) + 1)))
          have HB5 := Lib.hid (show But ba wr ((w4.setCell ⟨wr.heap.size, 3, none⟩ (.int .i64 t.line)).setCell ⟨wr.heap.size, 4, none⟩ (.int .i64 ((a : Int) - (la : Int) + 1))) from ((HB4.out.setNew (p := ⟨wr.heap.size, 3, none⟩) (Nat.le_refl _) _).setNew (p := ⟨wr.heap.size, 4, none⟩) (Nat.le_refl _) _))
          have HA5 := Lib.hid ((heap_2 w4 wr.heap.size ba 3 4 (Nat.ne_of_lt hbaz) (.int .i64 t.line) (.int .i64 ((a : Int) - (la : Int) + 1))).trans HA4.out)
          generalize ((w4.setCell ⟨wr.heap.size, 3, none⟩ (.int .i64 t.line)).setCell ⟨wr.heap.size, 4, none⟩ (.int .i64 ((a : Int) - (la : Int) + 1))) = w5 at HC5 HB5 HA5 ⊢
          clear d0 d1 d2 d3 d4 z0 z1 z2 z3 z4 HC4 HB4 HA4
          obtain ⟨d0, d1, d2, d3, d4, z0, z1, z2, z3, z4⟩ := HC5.out
          go_wp2_with fail
          have hW5 := hW.out.move HB5.out HA5.out
          refine (HSh.out _ hW5.toks (Nat.le_trans hWr hW5.keep.size)).mono ?_
          rintro e w6 ⟨rfl, hT6, hK6⟩
          have HW6 := Lib.hid (hW5.show (ts' := (ds ++ [(a, t)]).map (·.2)) (by rw [← HTe.out]; exact hT6) hK6 HNc.out.1 HNc.out.2)
          clear hT6 hK6 hW5 d0 d1 d2 d3 d4 z0 z1 z2 z3 z4
          go_wp2_with fail
          go_roundg (s.size - (a + n))
          case rel => exact ⟨a + n, f', t.line, la, ds ++ [(a, t)], by omega, rfl, rfl, rfl, HP, HW6⟩
          case measure => omega
        · have HF := Lib.hid (hP.out.wrong hltl (by rw [hxl]; exact hb) (by rw [hxl]; exact h35) he)
          obtain ⟨K, T, X, hE⟩ := word_er hpd he
          rw [hE] at hwt
          obtain ⟨E, hEE⟩ : ∃ E, oneE (s.data.toList.drop a) = E := ⟨_, rfl⟩
          rw [hEE] at HF hwt he
          have HWt := Lib.hid hwt
          have hE0 : ((E : Int) != 0) = true := by simp; omega
          clear hte h10' h10 h32 h9 h13 h35 ht hltl hxl hxd hwt hsz he hk htx hwd hpd hp hoN hdn hb hcol hE hEE
          generalize runLen isPart (s.data.toList.drop a) = n at HC HWt hrl hrp
          go_wp2_with fail
          refine (HC0.out _).mono ?_
          rintro e w' ⟨rfl, rfl⟩
          go_wp2_with fail
          refine (HC.out _ hA0.out hT0.out).mono ?_
          rintro e w2 ⟨⟨rfl, hA2⟩, hB2⟩
          have HG2 := Lib.hid (HGa.out.later (n := 7) (by omega) (hB2.below (B := 7) (by omega) (by simp; omega)))
          go_wp2_with fail
          refine (HWt.out _ HG2.out).mono ?_
          rintro e w3 ⟨rfl, hB3⟩
          have hBx : But ba (wr.alloc (.cells #[.int .i64 0, .string ⟨#[]⟩, .int .u64 0, .int .i64 0, .int .i64 0] 156)) w3 := hB2.later hB3
          have HBB := Lib.hid (hBa.out.trans hBx)
          have HA3 := Lib.hid ((hB3.block ba (lt_of_block hA2)).trans hA2)
          have HC3 := Lib.hid ((TokCells.new wr).later hbaz hBx)
          obtain ⟨d0, d1, d2, d3, d4, z0, z1, z2, z3, z4⟩ := HC3.out
          clear hB2 hB3 hBx hA2 cA fA cT
          go_upto_region 26 with fail
          have HC4 := Lib.hid (HC3.out.set (.int .i64 K) (.string T) (.int .u64 X) (.int .i64 0) (.int .i64 0))
          have HB4 := Lib.hid (show But ba wr (((((w3.setCell ⟨wr.heap.size, 0, none⟩ (.int .i64 K)).setCell ⟨wr.heap.size, 1, none⟩ (.string T)).setCell ⟨wr.heap.size, 2, none⟩ (.int .u64 X)).setCell ⟨wr.heap.size, 3, none⟩ (.int .i64 0)).setCell ⟨wr.heap.size, 4, none⟩ (.int .i64 0)) from (((((HBB.out.setNew (p := ⟨wr.heap.size, 0, none⟩) (Nat.le_refl _) _).setNew (p := ⟨wr.heap.size, 1, none⟩) (Nat.le_refl _) _).setNew (p := ⟨wr.heap.size, 2, none⟩) (Nat.le_refl _) _).setNew (p := ⟨wr.heap.size, 3, none⟩) (Nat.le_refl _) _).setNew (p := ⟨wr.heap.size, 4, none⟩) (Nat.le_refl _) _))
          have HA4 := Lib.hid ((heap_5 w3 wr.heap.size ba (Nat.ne_of_lt hbaz) (.int .i64 K) (.string T) (.int .u64 X) (.int .i64 0) (.int .i64 0)).trans HA3.out)
          generalize (((((w3.setCell ⟨wr.heap.size, 0, none⟩ (.int .i64 K)).setCell ⟨wr.heap.size, 1, none⟩ (.string T)).setCell ⟨wr.heap.size, 2, none⟩ (.int .u64 X)).setCell ⟨wr.heap.size, 3, none⟩ (.int .i64 0)).setCell ⟨wr.heap.size, 4, none⟩ (.int .i64 0)) = w4 at HC4 HB4 HA4 ⊢
          clear d0 d1 d2 d3 d4 z0 z1 z2 z3 z4 HBB HA3 HC3
          have hW4 := hW.out.move HB4.out HA4.out
          have HW4 := Lib.hid (And.intro hW4.toks hW4.keep)
          clear hW4
          go_wp2_with fail
          rw [Exit.noGoto_ret]
          go_ret
          exact ⟨scan_is HF.out rfl HW4.out.1, HW4.out.2⟩
      case false =>
        have hpd : isPart ((s.data.toList.drop a).headD 0) = false := by rw [hxd]; exact hp
        have hoN : oneN (s.data.toList.drop a) = signLen (s.data.toList.drop a) := by rw [oneN, hpd]; rfl
        have hrl := signLen_le (s.data.toList.drop a)
        rw [List.length_drop, ← size_len] at hrl
        rw [hp] at HC0
        have hws := fun w hm => signToken_any (s.extract a s.size) m w hm (by rw [ByteArray.size_extract]; omega)
        have HM0 := Lib.hid (show (wr.alloc (.cells #[.int .i64 0, .string ⟨#[]⟩, .int .u64 0, .int .i64 0, .int .i64 0] 156)).heap[m]? = some (smap signT) by rw [Below.heap_alloc _ _ _ (lt_of_block hW.out.mp)]; exact hW.out.mp)
        have cA0 := cell_of_one hA0.out
        have fA0 := free_of_one hA0.out
        have has : a ≤ s.size := by omega
        by_cases he : oneE (s.data.toList.drop a) = 0
        · obtain ⟨f', hP'⟩ := hP.out.token hltl (by rw [hxl]; exact hb) (by rw [hxl]; exact h35) he
          have hrp : 0 < signLen (s.data.toList.drop a) := by rw [← hoN]; exact oneN_pos hdn he
          have hlen : (str t.text).size = signLen (s.data.toList.drop a) := by rw [size_len, str_data, htx, oneT_len, hoN]
          rw [hoN, ht] at hP'
          have HP := Lib.hid hP'
          rw [sign_ok hpd he, ← hk, ← htx, ← hwd] at hws
          have HWs := Lib.hid hws
          have HTe := Lib.hid hte
          clear hte h10' h10 h32 h9 h13 h35 ht hP' hltl hxl hxd hws he hk htx hwd hpd hp hoN hdn hb hcol
          generalize signLen (s.data.toList.drop a) = n at HP hrl hlen hrp
          go_wp2_with fail
          refine (HC0.out _).mono ?_
          rintro e w' ⟨rfl, rfl⟩
          go_wp2_with fail
          refine (HWs.out _ HM0.out).mono ?_
          rintro e w3 ⟨rfl, hB3⟩
          have hBx : But ba (wr.alloc (.cells #[.int .i64 0, .string ⟨#[]⟩, .int .u64 0, .int .i64 0, .int .i64 0] 156)) w3 := But.of_below hB3
          have HBB := Lib.hid (hBa.out.trans hBx)
          have HA3 := Lib.hid ((hB3.block ba (lt_of_block hA0.out)).trans hA0.out)
          have HC3 := Lib.hid ((TokCells.new wr).later hbaz hBx)
          obtain ⟨d0, d1, d2, d3, d4, z0, z1, z2, z3, z4⟩ := HC3.out
          clear hB3 hBx cA fA cT cA0 fA0
          go_upto_region 25 with fail
          have HC4 := Lib.hid (HC3.out.set (.int .i64 t.kind) (.string (str t.text)) (.int .u64 t.word) (.int .i64 0) (.int .i64 0))
          have HB4 := Lib.hid (show But ba wr (((((w3.setCell ⟨wr.heap.size, 0, none⟩ (.int .i64 t.kind)).setCell ⟨wr.heap.size, 1, none⟩ (.string (str t.text))).setCell ⟨wr.heap.size, 2, none⟩ (.int .u64 t.word)).setCell ⟨wr.heap.size, 3, none⟩ (.int .i64 0)).setCell ⟨wr.heap.size, 4, none⟩ (.int .i64 0)) from (((((HBB.out.setNew (p := ⟨wr.heap.size, 0, none⟩) (Nat.le_refl _) _).setNew (p := ⟨wr.heap.size, 1, none⟩) (Nat.le_refl _) _).setNew (p := ⟨wr.heap.size, 2, none⟩) (Nat.le_refl _) _).setNew (p := ⟨wr.heap.size, 3, none⟩) (Nat.le_refl _) _).setNew (p := ⟨wr.heap.size, 4, none⟩) (Nat.le_refl _) _))
          have HA4 := Lib.hid ((heap_5 w3 wr.heap.size ba (Nat.ne_of_lt hbaz) (.int .i64 t.kind) (.string (str t.text)) (.int .u64 t.word) (.int .i64 0) (.int .i64 0)).trans HA3.out)
          generalize (((((w3.setCell ⟨wr.heap.size, 0, none⟩ (.int .i64 t.kind)).setCell ⟨wr.heap.size, 1, none⟩ (.string (str t.text))).setCell ⟨wr.heap.size, 2, none⟩ (.int .u64 t.word)).setCell ⟨wr.heap.size, 3, none⟩ (.int .i64 0)).setCell ⟨wr.heap.size, 4, none⟩ (.int .i64 0)) = w4 at HC4 HB4 HA4 ⊢
          clear d0 d1 d2 d3 d4 z0 z1 z2 z3 z4 HBB HA3 HC3
          have cA4 := cell_of_one HA4.out
          have fA4 := free_of_one HA4.out
          obtain ⟨d0, d1, d2, d3, d4, z0, z1, z2, z3, z4⟩ := HC4.out
          go_upto_region 26 with fail
          have HC7 := Lib.hid (HC4.out.other (Nat.ne_of_gt hbaz) (.int .i64 ((a : Int) + (n : Int))))
          have HB7 := Lib.hid (HB4.out.setCell 0 (.int .i64 ((a : Int) + (n : Int))))
          have HA7 : Hid ((w4.setCell ⟨ba, 0, none⟩ (.int .i64 ((a : Int) + (n : Int)))).heap[ba]? = some (.cells #[.int .i64 (((a + n) : Nat) : Int)] 3 (0, 0))) := Lib.hid (one_setCell HA4.out)
          generalize w4.setCell ⟨ba, 0, none⟩ (.int .i64 ((a : Int) + (n : Int))) = w7 at HC7 HB7 HA7 ⊢
          clear d0 d1 d2 d3 d4 z0 z1 z2 z3 z4 HC4 HB4 HA4 cA4 fA4
          obtain ⟨d0, d1, d2, d3, d4, z0, z1, z2, z3, z4⟩ := HC7.out
          go_upto_region 29 with fail
          have HC5 := Lib.hid (HC7.out.place (.int .i64 t.line) (.int .i64 ((a : Int) - (la : Int) + 1)))
          have HB5 := Lib.hid (show But ba wr ((w7.setCell ⟨wr.heap.size, 3, none⟩ (.int .i64 t.line)).setCell ⟨wr.heap.size, 4, none⟩ (.int .i64 ((a : Int) - (la : Int) + 1))) from ((HB7.out.setNew (p := ⟨wr.heap.size, 3, none⟩) (Nat.le_refl _) _).setNew (p := ⟨wr.heap.size, 4, none⟩) (Nat.le_refl _) _))
          have HA5 := Lib.hid ((heap_2 w7 wr.heap.size ba 3 4 (Nat.ne_of_lt hbaz) (.int .i64 t.line) (.int .i64 ((a : Int) - (la : Int) + 1))).trans HA7.out)
          generalize ((w7.setCell ⟨wr.heap.size, 3, none⟩ (.int .i64 t.line)).setCell ⟨wr.heap.size, 4, none⟩ (.int .i64 ((a : Int) - (la : Int) + 1))) = w5 at HC5 HB5 HA5 ⊢
          clear d0 d1 d2 d3 d4 z0 z1 z2 z3 z4 HC7 HB7 HA7
          obtain ⟨d0, d1, d2, d3, d4, z0, z1, z2, z3, z4⟩ := HC5.out
          go_wp2_with fail
          have hW5 := hW.out.move HB5.out HA5.out
          refine (HSh.out _ hW5.toks (Nat.le_trans hWr hW5.keep.size)).mono ?_
          rintro e w6 ⟨rfl, hT6, hK6⟩
          have HW6 := Lib.hid (hW5.show (ts' := (ds ++ [(a, t)]).map (·.2)) (by rw [← HTe.out]; exact hT6) hK6 HNc.out.1 HNc.out.2)
          clear hT6 hK6 hW5 d0 d1 d2 d3 d4 z0 z1 z2 z3 z4
          go_wp2_with fail
          go_roundg (s.size - (a + n))
          case rel => exact ⟨a + n, f', t.line, la, ds ++ [(a, t)], by omega, rfl, rfl, rfl, HP, HW6⟩
          case measure => omega
        · have HF := Lib.hid (hP.out.wrong hltl (by rw [hxl]; exact hb) (by rw [hxl]; exact h35) he)
          obtain ⟨hE, hE15⟩ := sign_er hpd he
          rw [hE] at hws
          rw [hE15] at HF
          have HWs := Lib.hid hws
          clear hte h10' h10 h32 h9 h13 h35 ht hltl hxl hxd hws he hk htx hwd hpd hp hoN hdn hb hcol hE hE15 hrl
          go_wp2_with fail
          refine (HC0.out _).mono ?_
          rintro e w' ⟨rfl, rfl⟩
          go_wp2_with fail
          refine (HWs.out _ HM0.out).mono ?_
          rintro e w3 ⟨rfl, hB3⟩
          have hBx : But ba (wr.alloc (.cells #[.int .i64 0, .string ⟨#[]⟩, .int .u64 0, .int .i64 0, .int .i64 0] 156)) w3 := But.of_below hB3
          have HBB := Lib.hid (hBa.out.trans hBx)
          have HA3 := Lib.hid ((hB3.block ba (lt_of_block hA0.out)).trans hA0.out)
          have HC3 := Lib.hid ((TokCells.new wr).later hbaz hBx)
          obtain ⟨d0, d1, d2, d3, d4, z0, z1, z2, z3, z4⟩ := HC3.out
          clear hB3 hBx cA fA cT cA0 fA0
          go_upto_region 25 with fail
          have HC4 := Lib.hid (HC3.out.set (.int .i64 0) (.string ⟨#[]⟩) (.int .u64 0) (.int .i64 0) (.int .i64 0))
          have HB4 := Lib.hid (show But ba wr (((((w3.setCell ⟨wr.heap.size, 0, none⟩ (.int .i64 0)).setCell ⟨wr.heap.size, 1, none⟩ (.string ⟨#[]⟩)).setCell ⟨wr.heap.size, 2, none⟩ (.int .u64 0)).setCell ⟨wr.heap.size, 3, none⟩ (.int .i64 0)).setCell ⟨wr.heap.size, 4, none⟩ (.int .i64 0)) from (((((HBB.out.setNew (p := ⟨wr.heap.size, 0, none⟩) (Nat.le_refl _) _).setNew (p := ⟨wr.heap.size, 1, none⟩) (Nat.le_refl _) _).setNew (p := ⟨wr.heap.size, 2, none⟩) (Nat.le_refl _) _).setNew (p := ⟨wr.heap.size, 3, none⟩) (Nat.le_refl _) _).setNew (p := ⟨wr.heap.size, 4, none⟩) (Nat.le_refl _) _))
          have HA4 := Lib.hid ((heap_5 w3 wr.heap.size ba (Nat.ne_of_lt hbaz) (.int .i64 0) (.string ⟨#[]⟩) (.int .u64 0) (.int .i64 0) (.int .i64 0)).trans HA3.out)
          generalize (((((w3.setCell ⟨wr.heap.size, 0, none⟩ (.int .i64 0)).setCell ⟨wr.heap.size, 1, none⟩ (.string ⟨#[]⟩)).setCell ⟨wr.heap.size, 2, none⟩ (.int .u64 0)).setCell ⟨wr.heap.size, 3, none⟩ (.int .i64 0)).setCell ⟨wr.heap.size, 4, none⟩ (.int .i64 0)) = w4 at HC4 HB4 HA4 ⊢
          clear d0 d1 d2 d3 d4 z0 z1 z2 z3 z4 HBB HA3 HC3
          have cA4 := cell_of_one HA4.out
          have fA4 := free_of_one HA4.out
          obtain ⟨d0, d1, d2, d3, d4, z0, z1, z2, z3, z4⟩ := HC4.out
          go_upto_region 26 with fail
          have HC7 := Lib.hid (HC4.out.other (Nat.ne_of_gt hbaz) (.int .i64 ((a : Int))))
          have HB7 := Lib.hid (HB4.out.setCell 0 (.int .i64 ((a : Int))))
          have HA7 : Hid ((w4.setCell ⟨ba, 0, none⟩ (.int .i64 ((a : Int)))).heap[ba]? = some (.cells #[.int .i64 (((a) : Nat) : Int)] 3 (0, 0))) := Lib.hid (one_setCell HA4.out)
          generalize w4.setCell ⟨ba, 0, none⟩ (.int .i64 ((a : Int))) = w7 at HC7 HB7 HA7 ⊢
          clear d0 d1 d2 d3 d4 z0 z1 z2 z3 z4 HC4 HB4 HA4 cA4 fA4
          have hW7 := hW.out.move HB7.out HA7.out
          have HW7 := Lib.hid (And.intro hW7.toks hW7.keep)
          clear hW7
          go_wp2_with fail
          rw [Exit.noGoto_ret]
          go_ret
          exact ⟨scan_is HF.out rfl HW7.out.1, HW7.out.2⟩
    · have hae : a = s.size := by omega
      have HF := Lib.hid (hP.out.over (by rw [← size_len]; omega))
      subst hae
      clear hag
      go_wp2_with fail
      rw [Exit.noGoto_ret]
      go_ret
      exact ⟨scan_is HF.out rfl hW.out.toks, hW.out.keep⟩
end Go.Proofs.YtchbnkepmeelkaaGreatDoor.Lx
