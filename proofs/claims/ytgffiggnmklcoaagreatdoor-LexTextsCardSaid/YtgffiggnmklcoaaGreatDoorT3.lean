/- The document's token at a place. -/
import Derived.Test.YtgffiggnmklcoaaGreatDoorT2
namespace Go.Proofs.YtgffiggnmklcoaaGreatDoor
open Go.RowKit

def OneIs (r : List UInt8) (a : Nat) (e : Ending) : Prop :=
  ∃ (k : Nat) (t : List UInt8) (x n : Nat), e = .returned (.tuple #[.agg #[.int .i64 k, .string (str t), .int .u64 x, .int .i64 0, .int .i64 0], .int .i64 n, .int .i64 (oneE r)]) ∧ (oneE r = 0 → k = oneK r ∧ t = oneT r ∧ x = oneX r ∧ n = a + oneN r)
theorem own_short {l : List UInt8} (h : ownB l = true) : l.length ≤ 16 := by
  have hm : l ∈ ownWords := of_decide_eq_true h
  have : ∀ x ∈ ownWords, x.length ≤ 16 := by decide
  exact this l hm
section
variable {r : List UInt8}
theorem head_run (h : isPart (r.headD 0) = true) : (r.takeWhile isPart).headD 0 = r.headD 0 := by
  cases r with
  | nil => rfl
  | cons c q => have h' : isPart c = true := h; rw [List.takeWhile_cons, if_pos h']; rfl
theorem isLet_part {c : UInt8} (h : isLet c = true) : isPart c = true := by simp [isPart, h]
theorem isDig_part {c : UInt8} (h : isDig c = true) : isPart c = true := by simp [isPart, h]
theorem isLet_dig {c : UInt8} (h : isLet c = true) : isDig c = false := by
  simp [isLet] at h; simp [isDig]; omega
theorem one_parts (hp : isPart (r.headD 0) = true) : oneE r = wordE (r.takeWhile isPart) ∧ oneK r = wordK (r.takeWhile isPart) ∧ oneT r = r.takeWhile isPart ∧ oneX r = wordX (r.takeWhile isPart) ∧ oneN r = runLen isPart r := by
  unfold oneE oneK oneT oneX oneN
  simp only [hp, if_true, and_self]
theorem one_own (h : isLet (r.headD 0) = true) (ho : ownB (r.takeWhile isPart) = true) : oneE r = 0 ∧ oneK r = 2 ∧ oneX r = 0 := by
  have hp := isLet_part h
  have hh := head_run hp
  obtain ⟨h1, h2, _, h4, _⟩ := one_parts hp
  have e : wordE (r.takeWhile isPart) = 0 := by rw [wordE, hh, isLet_dig h, h, ho]; rfl
  exact ⟨by rw [h1, e], by rw [h2, wordK, if_pos e, hh, isLet_dig h, ho]; rfl, by rw [h4, wordX, hh, isLet_dig h]; rfl⟩
theorem one_long (h : isLet (r.headD 0) = true) (ho : ownB (r.takeWhile isPart) = false) (hl : 16 < (r.takeWhile isPart).length) : oneE r = 8 := by
  have hp := isLet_part h
  have hh := head_run hp
  rw [(one_parts hp).1, wordE, hh, isLet_dig h, h, ho, if_pos hl]; rfl
theorem one_name (h : isLet (r.headD 0) = true) (ho : ownB (r.takeWhile isPart) = false) (hl : ¬ 16 < (r.takeWhile isPart).length) : oneE r = 0 ∧ oneK r = 1 ∧ oneX r = 0 := by
  have hp := isLet_part h
  have hh := head_run hp
  obtain ⟨h1, h2, _, h4, _⟩ := one_parts hp
  have e : wordE (r.takeWhile isPart) = 0 := by rw [wordE, hh, isLet_dig h, h, ho, if_neg hl]; rfl
  exact ⟨by rw [h1, e], by rw [h2, wordK, if_pos e, hh, isLet_dig h, ho]; rfl, by rw [h4, wordX, hh, isLet_dig h]; rfl⟩
theorem one_digit (h : isDig (r.headD 0) = true) : oneE r = numE (r.takeWhile isPart) ∧ (oneE r = 0 → oneK r = 3) ∧ oneX r = numV (r.takeWhile isPart) := by
  have hp := isDig_part h
  have hh := head_run hp
  obtain ⟨h1, h2, _, h4, _⟩ := one_parts hp
  have e : wordE (r.takeWhile isPart) = numE (r.takeWhile isPart) := by rw [wordE, hh, if_pos h]
  exact ⟨by rw [h1, e], fun h0 => by rw [h1] at h0; rw [h2, wordK, if_pos h0, hh, if_pos h], by rw [h4, wordX, hh, if_pos h]⟩
theorem one_sign0 (h1 : isLet (r.headD 0) = false) (h2 : isDig (r.headD 0) = false) (h : signLen r = 0) : oneE r = 15 := by
  cases hp : isPart (r.headD 0) with
  | true => rw [(one_parts hp).1, wordE, head_run hp, h2, h1]; rfl
  | false => rw [oneE, hp, h]; rfl
theorem one_sign (h : signLen r ≠ 0) : oneE r = 0 ∧ oneK r = 4 ∧ oneT r = r.take (signLen r) ∧ oneX r = 0 ∧ oneN r = signLen r := by
  have hp : isPart (r.headD 0) = false := by
    cases hp : isPart (r.headD 0) with
    | true => exact absurd (sign_part hp) h
    | false => rfl
  unfold oneE oneK oneT oneX oneN
  simp only [hp, Bool.false_eq_true, if_false, if_neg h, and_self]
end
/-- a block of five cells, later -/
theorem TokCells.on {w w' : World} {g n : Nat} {v0 v1 v2 v3 v4 : Value} (h : TokCells w g v0 v1 v2 v3 v4) (hg : g < n) (hB : Below n w w') : TokCells w' g v0 v1 v2 v3 v4 := by
  obtain ⟨c0, c1, c2, c3, c4, z0, z1, z2, z3, z4⟩ := h
  exact ⟨(hB.cell (p := ⟨g, 0, none⟩) hg).trans c0, (hB.cell (p := ⟨g, 1, none⟩) hg).trans c1, (hB.cell (p := ⟨g, 2, none⟩) hg).trans c2, (hB.cell (p := ⟨g, 3, none⟩) hg).trans c3, (hB.cell (p := ⟨g, 4, none⟩) hg).trans c4,
    (hB.frozen (p := ⟨g, 0, none⟩) hg).trans z0, (hB.frozen (p := ⟨g, 1, none⟩) hg).trans z1, (hB.frozen (p := ⟨g, 2, none⟩) hg).trans z2, (hB.frozen (p := ⟨g, 3, none⟩) hg).trans z3, (hB.frozen (p := ⟨g, 4, none⟩) hg).trans z4⟩
theorem TokCells.on' {w w' : World} {g : Nat} {v0 v1 v2 v3 v4 : Value} (h : TokCells w g v0 v1 v2 v3 v4) (hB : Below w.heap.size w w') : TokCells w' g v0 v1 v2 v3 v4 :=
  h.on (World.block_lt_of_cell? w _ h.c0) hB
theorem TokCells.newT (w : World) (v0 v1 v2 v3 v4 : Value) : TokCells (w.alloc (.cells #[v0, v1, v2, v3, v4] 52)) w.heap.size v0 v1 v2 v3 v4 := by
  constructor <;> simp [go_sem]

theorem TokCells.set0 {w : World} {g : Nat} {u0 u1 u2 u3 u4 : Value} (h : TokCells w g u0 u1 u2 u3 u4) (v0 : Value) : TokCells (w.setCell ⟨g, 0, none⟩ v0) g v0 u1 u2 u3 u4 := by
  obtain ⟨c0, c1, c2, c3, c4, z0, z1, z2, z3, z4⟩ := h
  constructor <;> simp [go_sem, c0, c1, c2, c3, c4, z0, z1, z2, z3, z4]
theorem TokCells.set0o {w : World} {g b : Nat} {u0 u1 u2 u3 u4 : Value} (h : TokCells w g u0 u1 u2 u3 u4) (hn : b ≠ g) (v : Value) : TokCells (w.setCell ⟨b, 0, none⟩ v) g u0 u1 u2 u3 u4 := h.other (Ne.symm hn) v
theorem one_is {r : List UInt8} {a k x n : Nat} {t : ByteArray} {er : Int} (he : (oneE r : Int) = er) (h : oneE r = 0 → k = oneK r ∧ t.data.toList = oneT r ∧ x = oneX r ∧ n = a + oneN r) :
    OneIs r a (.returned (.tuple #[.agg #[.int .i64 k, .string t, .int .u64 x, .int .i64 0, .int .i64 0], .int .i64 n, .int .i64 er])) :=
  ⟨k, t.data.toList, x, n, by rw [he, str_eta], h⟩

set_option maxRecDepth 100000 in
set_option maxHeartbeats 6400000 in
theorem rone_any (s : ByteArray) (a : Nat) (w : World) (hs : s.size ≤ 281474976710656) (ha : a < s.size) :
    Calls Tryz.prog 37 #[.string s, .int .i64 a] w fun e w' => OneIs (s.data.toList.drop a) a e ∧ Below w.heap.size w w' := by
  obtain ⟨r, hr⟩ : ∃ r, s.data.toList.drop a = r := ⟨_, rfl⟩
  have hal : a < s.data.toList.length := by rw [← size_len]; exact ha
  have hhd : r.headD 0 = s[a]'ha := by rw [← hr, drop_head hal]; rfl
  have hrl : r.length = s.size - a := by rw [← hr, List.length_drop, ← size_len]
  obtain ⟨x, hx⟩ : ∃ x, s[a]'ha = x := ⟨_, rfl⟩
  rw [hx] at hhd
  have HEx : Hid (∀ q, q = a + runLen isPart r → (s.extract a q).data.toList = r.takeWhile isPart) := Lib.hid (fun q hq => by rw [hq, ext_drop, hr, takeWhile_take])
  have HGet : Hid (∀ q (h : q < s.size), a ≤ q → ∃ h' : q - a < r.length, r[q - a]'h' = s[q]'h) := Lib.hid (fun q h haq => ⟨by rw [hrl]; omega, by
    subst hr; rw [List.getElem_drop]
    have h2 : q < s.data.toList.length := by rw [← size_len]; exact h
    have h3 : s.data.toList[q]'h2 = s[q]'h := rfl
    rw [← h3]; congr 1; omega⟩)
  have HSg := Lib.hid (fun w => rsign_any s a w hs (by omega))
  have hsg := signLen_le r
  rw [hr] at HSg ⊢
  have HR := Lib.hid hr
  have HHd := Lib.hid hhd
  have HRl := Lib.hid hrl
  clear hr hhd hrl hal
  go_enter Tryz.func37, Tryz.ntmps37
  go_wp2_with fail
  obtain ⟨wz, hwz⟩ : ∃ wz, w.alloc (.cells #[.int .i64 0, .string ⟨#[]⟩, .int .u64 0, .int .i64 0, .int .i64 0] 52) = wz := ⟨_, rfl⟩
  have HBz := Lib.hid (show Below w.heap.size w wz by rw [← hwz]; exact (Below.refl _ _).alloc (Nat.le_refl _) _)
  have HTz := Lib.hid (show TokCells wz w.heap.size (.int .i64 0) (.string ⟨#[]⟩) (.int .u64 0) (.int .i64 0) (.int .i64 0) by rw [← hwz]; exact TokCells.new w)
  have hzz : w.heap.size < wz.heap.size := by rw [← hwz]; simp
  rw [hwz]
  clear hwz
  go_loopg [7] (s.size - a) (fun g i wr => ∃ q : Nat, i = .int .i64 q ∧ q + g = s.size ∧ Hid (a ≤ q ∧ (r.take (q - a)).all isPart = true) ∧ wr = wz)
  case atStart => exact ⟨a, rfl, by omega, Lib.hid ⟨Nat.le_refl _, by rw [Nat.sub_self]; rfl⟩, rfl⟩
  case round =>
    obtain ⟨q, rfl, hqg, hP, rfl⟩ := hrel
    have haq := hP.out.1
    by_cases hlt : q < s.size
    · have HC := Lib.hid (fun w => rpart_any (s[q]'hlt) w)
      obtain ⟨hl', hg'⟩ := HGet.out q hlt haq
      cases hc : isPart (s[q]'hlt)
      · have HQ := Lib.hid (show q = a + runLen isPart r by rw [run_at hP.out.2 (Nat.le_of_lt hl') (fun _ => by rw [hg']; exact hc)]; omega)
        rw [hc] at HC
        clear hc hl' hg' hP
        have hqs : q ≤ s.size := by omega
        go_wp2_with (go_at_call 43; refine (HC.out _).mono ?_; rintro e w' ⟨rfl, rfl⟩)
        have HLt := Lib.hid (fun w => rlet_any x w)
        have HDg := Lib.hid (fun w => rdig_any x w)
        have hET := HEx.out q HQ.out
        have hez : (s.extract a q).size = q - a := by rw [ByteArray.size_extract]; omega
        obtain ⟨xt, hxt⟩ : ∃ xt, s.extract a q = xt := ⟨_, rfl⟩
        rw [hxt] at hET hez ⊢
        have hxl : xt.data.toList.length = xt.size := (size_len xt).symm
        have HOw := Lib.hid (fun w => rown_any xt w)
        have HNu := Lib.hid (fun w => rnumber_any xt w)
        have hAz := TokCells.newT wr (.int .i64 0) (.string xt) (.int .u64 0) (.int .i64 0) (.int .i64 0)
        have hRz := HTz.out.on hzz ((Below.refl _ wr).alloc (Nat.le_refl _) (.cells #[.int .i64 0, .string xt, .int .u64 0, .int .i64 0, .int .i64 0] 52))
        have HBa := Lib.hid (HBz.out.alloc HBz.out.size (.cells #[.int .i64 0, .string xt, .int .u64 0, .int .i64 0, .int .i64 0] 52))
        have hne : wr.heap.size ≠ w.heap.size := Nat.ne_of_gt hzz
        clear hxt HEx HGet
        cases hl : isLet x
        · cases hd : isDig x
          · rw [hl] at HLt
            rw [hd] at HDg
            obtain ⟨n, hn⟩ : ∃ n, signLen r = n := ⟨_, rfl⟩
            have HS0 : Hid (n = 0 → oneE r = 15) := Lib.hid (fun h => one_sign0 (by rw [HHd.out]; exact hl) (by rw [HHd.out]; exact hd) (by rw [hn]; exact h))
            have HS1 : Hid (n ≠ 0 → _) := Lib.hid (fun h => one_sign (r := r) (by rw [hn]; exact h))
            rw [hn] at HSg HS1 hsg
            obtain ⟨p, hp⟩ : ∃ p, p = a + n := ⟨_, rfl⟩
            have hsum : (a : Int) + (n : Int) = (p : Int) := by omega
            have hps : p ≤ s.size := by have := HRl.out; omega
            have hap : a ≤ p := by omega
            have hpx : (s.extract a p).data.toList = r.take n := by rw [hp, ext_drop, HR.out]
            by_cases h0 : n = 0
            · have HF := Lib.hid (one_is (r := r) (a := a) (k := 4) (x := 0) (n := a) (t := s.extract a p) (er := 15) (by rw [HS0.out h0]; rfl) (fun h => by rw [HS0.out h0] at h; cases h))
              have en : ((n : Int) == 0) = true := by rw [h0]; rfl
              clear hl hd HS0 HS1 hn hp hpx hET hez hxl h0 HOw HNu hsg
              refine (HLt.out _).mono ?_
              rintro e w' ⟨rfl, rfl⟩
              go_wp2_with fail
              refine (HDg.out _).mono ?_
              rintro e w' ⟨rfl, rfl⟩
              go_wp2_with fail
              refine (HSg.out _).mono ?_
              rintro e w2 ⟨rfl, hB2⟩
              obtain ⟨d0, d1, d2, d3, d4, y0, y1, y2, y3, y4⟩ := hAz.on' hB2
              obtain ⟨c0, c1, c2, c3, c4, z0, z1, z2, z3, z4⟩ := hRz.on' hB2
              have HB2 := Lib.hid (HBa.out.trans (hB2.mono HBa.out.size))
              clear hB2 hAz hRz
              go_wp2_with fail
              refine bodyPost_ret (v := .tuple #[.agg #[.int .i64 4, .string (s.extract a p), .int .u64 0, .int .i64 0, .int .i64 0], .int .i64 a, .int .i64 15]) (by simp [results, Tryz.results37, go_sem, c0, c1, c2, c3, c4]) rfl ⟨HF.out, ?_⟩
              repeat (first | (with_reducible exact HB2.out) | (with_reducible refine Below.setCell ?_ ?_ _) | (with_reducible exact Nat.le_refl _) | (with_reducible exact Nat.le_of_lt hzz))
            · obtain ⟨s1, s2, s3, s4, s5⟩ := HS1.out h0
              have HF := Lib.hid (one_is (r := r) (a := a) (k := 4) (x := 0) (n := p) (t := s.extract a p) (er := 0) (by rw [s1]; rfl) (fun _ => ⟨s2.symm, by rw [s3, hpx], s4.symm, by rw [s5, hp]⟩))
              have en : ((n : Int) == 0) = false := by simp; omega
              clear hl hd HS0 HS1 hn hp hpx hET hez hxl h0 HOw HNu hsg s1 s2 s3 s4 s5
              refine (HLt.out _).mono ?_
              rintro e w' ⟨rfl, rfl⟩
              go_wp2_with fail
              refine (HDg.out _).mono ?_
              rintro e w' ⟨rfl, rfl⟩
              go_wp2_with fail
              refine (HSg.out _).mono ?_
              rintro e w2 ⟨rfl, hB2⟩
              obtain ⟨d0, d1, d2, d3, d4, y0, y1, y2, y3, y4⟩ := hAz.on' hB2
              obtain ⟨c0, c1, c2, c3, c4, z0, z1, z2, z3, z4⟩ := hRz.on' hB2
              have HB2 := Lib.hid (HBa.out.trans (hB2.mono HBa.out.size))
              clear hB2 hAz hRz
              go_wp2_with fail
              refine bodyPost_ret (v := .tuple #[.agg #[.int .i64 4, .string (s.extract a p), .int .u64 0, .int .i64 0, .int .i64 0], .int .i64 p, .int .i64 0]) (by simp [results, Tryz.results37, go_sem, c0, c1, c2, c3, c4]) rfl ⟨HF.out, ?_⟩
              repeat (first | (with_reducible exact HB2.out) | (with_reducible refine Below.setCell ?_ ?_ _) | (with_reducible exact Nat.le_refl _) | (with_reducible exact Nat.le_of_lt hzz))
          · rw [hl] at HLt
            rw [hd] at HDg
            obtain ⟨s1, s2, s3⟩ := one_digit (r := r) (by rw [HHd.out]; exact hd)
            have sp := one_parts (r := r) (isDig_part (by rw [HHd.out]; exact hd))
            rw [← hET] at s1 s3
            have HF := Lib.hid (one_is (r := r) (a := a) (k := 3) (x := numV xt.data.toList) (n := q) (t := xt) (er := numE xt.data.toList) (by rw [s1]) (fun h => ⟨(s2 h).symm, by rw [sp.2.2.1, hET], s3.symm, by rw [sp.2.2.2.2, HQ.out]⟩))
            obtain ⟨c0, c1, c2, c3, c4, z0, z1, z2, z3, z4⟩ := HTz.out
            generalize numV xt.data.toList = nv at HF HNu
            generalize numE xt.data.toList = ne at HF HNu
            clear hl hd hET hez hxl HOw HSg hsg s1 s2 s3 sp hAz hRz
            refine (HLt.out _).mono ?_
            rintro e w' ⟨rfl, rfl⟩
            go_wp2_with fail
            refine (HDg.out _).mono ?_
            rintro e w' ⟨rfl, rfl⟩
            go_wp2_with fail
            refine (HNu.out _).mono ?_
            rintro e w' ⟨rfl, rfl⟩
            go_wp2_with fail
            have hal : ∀ (W : World) (i : Nat) (o : Obj), W.heap.size = wr.heap.size → (W.alloc o).cell? ⟨w.heap.size, i, none⟩ = W.cell? ⟨w.heap.size, i, none⟩ := fun W i o h => World.cell?_alloc_lt W _ ⟨w.heap.size, i, none⟩ (by rw [h]; exact hzz)
            refine bodyPost_ret (v := .tuple #[.agg #[.int .i64 3, .string xt, .int .u64 nv, .int .i64 0, .int .i64 0], .int .i64 q, .int .i64 ne]) (by simp [results, Tryz.results37, go_sem, hal, c0, c1, c2, c3, c4]) rfl ⟨HF.out, ?_⟩
            refine Below.alloc (a := w) (B := w.heap.size) ?_ (by simp [World.setCell]; omega) _
            repeat (first | (with_reducible exact HBz.out) | (with_reducible refine Below.setCell ?_ ?_ _) | (with_reducible exact Nat.le_refl _))
        · have hl' : isLet (r.headD 0) = true := by rw [HHd.out]; exact hl
          have sp := one_parts (r := r) (isLet_part hl')
          rw [hl] at HLt
          cases ho : ownB xt.data.toList
          · rw [ho] at HOw
            by_cases h16 : 16 < xt.size
            · have HF := Lib.hid (one_is (r := r) (a := a) (k := 1) (x := 0) (n := a) (t := xt) (er := 8) (by rw [one_long hl' (by rw [← hET]; exact ho) (by rw [← hET, ← size_len]; exact h16)]; rfl) (fun h => by rw [one_long hl' (by rw [← hET]; exact ho) (by rw [← hET, ← size_len]; exact h16)] at h; cases h))
              clear hl hl' sp ho hET hxl HNu HDg HSg hsg
              refine (HLt.out _).mono ?_
              rintro e w' ⟨rfl, rfl⟩
              go_wp2_with fail
              refine (HOw.out _).mono ?_
              rintro e w2 ⟨rfl, hB2⟩
              obtain ⟨d0, d1, d2, d3, d4, y0, y1, y2, y3, y4⟩ := (TokCells.newT wr (.int .i64 1) (.string xt) (.int .u64 0) (.int .i64 0) (.int .i64 0)).on' hB2
              obtain ⟨c0, c1, c2, c3, c4, z0, z1, z2, z3, z4⟩ := (HTz.out.on hzz ((Below.refl _ wr).alloc (Nat.le_refl _) (.cells #[.int .i64 1, .string xt, .int .u64 0, .int .i64 0, .int .i64 0] 52))).on' hB2
              have HB2 := Lib.hid ((HBz.out.alloc HBz.out.size (.cells #[.int .i64 1, .string xt, .int .u64 0, .int .i64 0, .int .i64 0] 52)).trans (hB2.mono (by simp; omega)))
              clear hB2 hAz hRz
              go_wp2_with fail
              refine bodyPost_ret (v := .tuple #[.agg #[.int .i64 1, .string xt, .int .u64 0, .int .i64 0, .int .i64 0], .int .i64 a, .int .i64 8]) (by simp [results, Tryz.results37, go_sem, c0, c1, c2, c3, c4]) rfl ⟨HF.out, ?_⟩
              repeat (first | (with_reducible exact HB2.out) | (with_reducible refine Below.setCell ?_ ?_ _) | (with_reducible exact Nat.le_refl _) | (with_reducible exact Nat.le_of_lt hzz))
            · obtain ⟨s1, s2, s3⟩ := one_name hl' (by rw [← hET]; exact ho) (by rw [← hET, ← size_len]; exact h16)
              have HF := Lib.hid (one_is (r := r) (a := a) (k := 1) (x := 0) (n := q) (t := xt) (er := 0) (by rw [s1]; rfl) (fun _ => ⟨s2.symm, by rw [sp.2.2.1, hET], s3.symm, by rw [sp.2.2.2.2, HQ.out]⟩))
              clear hl hl' sp ho hET hxl HNu HDg HSg hsg s1 s2 s3
              refine (HLt.out _).mono ?_
              rintro e w' ⟨rfl, rfl⟩
              go_wp2_with fail
              refine (HOw.out _).mono ?_
              rintro e w2 ⟨rfl, hB2⟩
              obtain ⟨d0, d1, d2, d3, d4, y0, y1, y2, y3, y4⟩ := (TokCells.newT wr (.int .i64 1) (.string xt) (.int .u64 0) (.int .i64 0) (.int .i64 0)).on' hB2
              obtain ⟨c0, c1, c2, c3, c4, z0, z1, z2, z3, z4⟩ := (HTz.out.on hzz ((Below.refl _ wr).alloc (Nat.le_refl _) (.cells #[.int .i64 1, .string xt, .int .u64 0, .int .i64 0, .int .i64 0] 52))).on' hB2
              have HB2 := Lib.hid ((HBz.out.alloc HBz.out.size (.cells #[.int .i64 1, .string xt, .int .u64 0, .int .i64 0, .int .i64 0] 52)).trans (hB2.mono (by simp; omega)))
              clear hB2 hAz hRz
              go_wp2_with fail
              refine bodyPost_ret (v := .tuple #[.agg #[.int .i64 1, .string xt, .int .u64 0, .int .i64 0, .int .i64 0], .int .i64 q, .int .i64 0]) (by simp [results, Tryz.results37, go_sem, c0, c1, c2, c3, c4]) rfl ⟨HF.out, ?_⟩
              repeat (first | (with_reducible exact HB2.out) | (with_reducible refine Below.setCell ?_ ?_ _) | (with_reducible exact Nat.le_refl _) | (with_reducible exact Nat.le_of_lt hzz))
          · rw [ho] at HOw
            obtain ⟨s1, s2, s3⟩ := one_own hl' (by rw [← hET]; exact ho)
            have HF := Lib.hid (one_is (r := r) (a := a) (k := 2) (x := 0) (n := q) (t := xt) (er := 0) (by rw [s1]; rfl) (fun _ => ⟨s2.symm, by rw [sp.2.2.1, hET], s3.symm, by rw [sp.2.2.2.2, HQ.out]⟩))
            have h16 : ¬ 16 < xt.size := by have := own_short ho; rw [hxl] at this; omega
            clear hl hl' sp ho hET hxl HNu HDg HSg hsg s1 s2 s3
            refine (HLt.out _).mono ?_
            rintro e w' ⟨rfl, rfl⟩
            go_wp2_with fail
            refine (HOw.out _).mono ?_
            rintro e w2 ⟨rfl, hB2⟩
            obtain ⟨d0, d1, d2, d3, d4, y0, y1, y2, y3, y4⟩ := (TokCells.newT wr (.int .i64 1) (.string xt) (.int .u64 0) (.int .i64 0) (.int .i64 0)).on' hB2
            obtain ⟨c0, c1, c2, c3, c4, z0, z1, z2, z3, z4⟩ := (HTz.out.on hzz ((Below.refl _ wr).alloc (Nat.le_refl _) (.cells #[.int .i64 1, .string xt, .int .u64 0, .int .i64 0, .int .i64 0] 52))).on' hB2
            have HB2 := Lib.hid ((HBz.out.alloc HBz.out.size (.cells #[.int .i64 1, .string xt, .int .u64 0, .int .i64 0, .int .i64 0] 52)).trans (hB2.mono (by simp; omega)))
            clear hB2 hAz hRz
            go_wp2_with fail
            refine bodyPost_ret (v := .tuple #[.agg #[.int .i64 2, .string xt, .int .u64 0, .int .i64 0, .int .i64 0], .int .i64 q, .int .i64 0]) (by simp [results, Tryz.results37, go_sem, c0, c1, c2, c3, c4]) rfl ⟨HF.out, ?_⟩
            repeat (first | (with_reducible exact HB2.out) | (with_reducible refine Below.setCell ?_ ?_ _) | (with_reducible exact Nat.le_refl _) | (with_reducible exact Nat.le_of_lt hzz))
      · have hS : Hid (a ≤ q + 1 ∧ (r.take (q + 1 - a)).all isPart = true) := Lib.hid (by
          refine ⟨by omega, ?_⟩
          have := run_snoc hP.out.2 hl' (by rw [hg']; exact hc)
          rwa [show q - a + 1 = q + 1 - a by omega] at this)
        rw [hc] at HC
        clear hc hl' hg' hP
        obtain ⟨g', rfl⟩ : ∃ g', gk = g' + 1 := ⟨gk - 1, by omega⟩
        go_wp2_with (go_at_call 43; refine (HC.out _).mono ?_; rintro e w' ⟨rfl, rfl⟩)
        go_roundg g'
        case rel => exact ⟨q + 1, by go_num, by omega, hS, rfl⟩
        case measure => omega
    · have HQ := Lib.hid (show q = a + runLen isPart r by have := HRl.out; rw [run_at hP.out.2 (by omega) (fun h => absurd h (by omega))]; omega)
      clear hP
      have hqs : q ≤ s.size := by omega
      go_wp2_with fail
      have HLt := Lib.hid (fun w => rlet_any x w)
      have HDg := Lib.hid (fun w => rdig_any x w)
      have hET := HEx.out q HQ.out
      have hez : (s.extract a q).size = q - a := by rw [ByteArray.size_extract]; omega
      obtain ⟨xt, hxt⟩ : ∃ xt, s.extract a q = xt := ⟨_, rfl⟩
      rw [hxt] at hET hez ⊢
      have hxl : xt.data.toList.length = xt.size := (size_len xt).symm
      have HOw := Lib.hid (fun w => rown_any xt w)
      have HNu := Lib.hid (fun w => rnumber_any xt w)
      have hAz := TokCells.newT wr (.int .i64 0) (.string xt) (.int .u64 0) (.int .i64 0) (.int .i64 0)
      have hRz := HTz.out.on hzz ((Below.refl _ wr).alloc (Nat.le_refl _) (.cells #[.int .i64 0, .string xt, .int .u64 0, .int .i64 0, .int .i64 0] 52))
      have HBa := Lib.hid (HBz.out.alloc HBz.out.size (.cells #[.int .i64 0, .string xt, .int .u64 0, .int .i64 0, .int .i64 0] 52))
      have hne : wr.heap.size ≠ w.heap.size := Nat.ne_of_gt hzz
      clear hxt HEx HGet
      cases hl : isLet x
      · cases hd : isDig x
        · rw [hl] at HLt
          rw [hd] at HDg
          obtain ⟨n, hn⟩ : ∃ n, signLen r = n := ⟨_, rfl⟩
          have HS0 : Hid (n = 0 → oneE r = 15) := Lib.hid (fun h => one_sign0 (by rw [HHd.out]; exact hl) (by rw [HHd.out]; exact hd) (by rw [hn]; exact h))
          have HS1 : Hid (n ≠ 0 → _) := Lib.hid (fun h => one_sign (r := r) (by rw [hn]; exact h))
          rw [hn] at HSg HS1 hsg
          obtain ⟨p, hp⟩ : ∃ p, p = a + n := ⟨_, rfl⟩
          have hsum : (a : Int) + (n : Int) = (p : Int) := by omega
          have hps : p ≤ s.size := by have := HRl.out; omega
          have hap : a ≤ p := by omega
          have hpx : (s.extract a p).data.toList = r.take n := by rw [hp, ext_drop, HR.out]
          by_cases h0 : n = 0
          · have HF := Lib.hid (one_is (r := r) (a := a) (k := 4) (x := 0) (n := a) (t := s.extract a p) (er := 15) (by rw [HS0.out h0]; rfl) (fun h => by rw [HS0.out h0] at h; cases h))
            have en : ((n : Int) == 0) = true := by rw [h0]; rfl
            clear hl hd HS0 HS1 hn hp hpx hET hez hxl h0 HOw HNu hsg
            refine (HLt.out _).mono ?_
            rintro e w' ⟨rfl, rfl⟩
            go_wp2_with fail
            refine (HDg.out _).mono ?_
            rintro e w' ⟨rfl, rfl⟩
            go_wp2_with fail
            refine (HSg.out _).mono ?_
            rintro e w2 ⟨rfl, hB2⟩
            obtain ⟨d0, d1, d2, d3, d4, y0, y1, y2, y3, y4⟩ := hAz.on' hB2
            obtain ⟨c0, c1, c2, c3, c4, z0, z1, z2, z3, z4⟩ := hRz.on' hB2
            have HB2 := Lib.hid (HBa.out.trans (hB2.mono HBa.out.size))
            clear hB2 hAz hRz
            go_wp2_with fail
            refine bodyPost_ret (v := .tuple #[.agg #[.int .i64 4, .string (s.extract a p), .int .u64 0, .int .i64 0, .int .i64 0], .int .i64 a, .int .i64 15]) (by simp [results, Tryz.results37, go_sem, c0, c1, c2, c3, c4]) rfl ⟨HF.out, ?_⟩
            repeat (first | (with_reducible exact HB2.out) | (with_reducible refine Below.setCell ?_ ?_ _) | (with_reducible exact Nat.le_refl _) | (with_reducible exact Nat.le_of_lt hzz))
          · obtain ⟨s1, s2, s3, s4, s5⟩ := HS1.out h0
            have HF := Lib.hid (one_is (r := r) (a := a) (k := 4) (x := 0) (n := p) (t := s.extract a p) (er := 0) (by rw [s1]; rfl) (fun _ => ⟨s2.symm, by rw [s3, hpx], s4.symm, by rw [s5, hp]⟩))
            have en : ((n : Int) == 0) = false := by simp; omega
            clear hl hd HS0 HS1 hn hp hpx hET hez hxl h0 HOw HNu hsg s1 s2 s3 s4 s5
            refine (HLt.out _).mono ?_
            rintro e w' ⟨rfl, rfl⟩
            go_wp2_with fail
            refine (HDg.out _).mono ?_
            rintro e w' ⟨rfl, rfl⟩
            go_wp2_with fail
            refine (HSg.out _).mono ?_
            rintro e w2 ⟨rfl, hB2⟩
            obtain ⟨d0, d1, d2, d3, d4, y0, y1, y2, y3, y4⟩ := hAz.on' hB2
            obtain ⟨c0, c1, c2, c3, c4, z0, z1, z2, z3, z4⟩ := hRz.on' hB2
            have HB2 := Lib.hid (HBa.out.trans (hB2.mono HBa.out.size))
            clear hB2 hAz hRz
            go_wp2_with fail
            refine bodyPost_ret (v := .tuple #[.agg #[.int .i64 4, .string (s.extract a p), .int .u64 0, .int .i64 0, .int .i64 0], .int .i64 p, .int .i64 0]) (by simp [results, Tryz.results37, go_sem, c0, c1, c2, c3, c4]) rfl ⟨HF.out, ?_⟩
            repeat (first | (with_reducible exact HB2.out) | (with_reducible refine Below.setCell ?_ ?_ _) | (with_reducible exact Nat.le_refl _) | (with_reducible exact Nat.le_of_lt hzz))
        · rw [hl] at HLt
          rw [hd] at HDg
          obtain ⟨s1, s2, s3⟩ := one_digit (r := r) (by rw [HHd.out]; exact hd)
          have sp := one_parts (r := r) (isDig_part (by rw [HHd.out]; exact hd))
          rw [← hET] at s1 s3
          have HF := Lib.hid (one_is (r := r) (a := a) (k := 3) (x := numV xt.data.toList) (n := q) (t := xt) (er := numE xt.data.toList) (by rw [s1]) (fun h => ⟨(s2 h).symm, by rw [sp.2.2.1, hET], s3.symm, by rw [sp.2.2.2.2, HQ.out]⟩))
          obtain ⟨c0, c1, c2, c3, c4, z0, z1, z2, z3, z4⟩ := HTz.out
          generalize numV xt.data.toList = nv at HF HNu
          generalize numE xt.data.toList = ne at HF HNu
          clear hl hd hET hez hxl HOw HSg hsg s1 s2 s3 sp hAz hRz
          refine (HLt.out _).mono ?_
          rintro e w' ⟨rfl, rfl⟩
          go_wp2_with fail
          refine (HDg.out _).mono ?_
          rintro e w' ⟨rfl, rfl⟩
          go_wp2_with fail
          refine (HNu.out _).mono ?_
          rintro e w' ⟨rfl, rfl⟩
          go_wp2_with fail
          have hal : ∀ (W : World) (i : Nat) (o : Obj), W.heap.size = wr.heap.size → (W.alloc o).cell? ⟨w.heap.size, i, none⟩ = W.cell? ⟨w.heap.size, i, none⟩ := fun W i o h => World.cell?_alloc_lt W _ ⟨w.heap.size, i, none⟩ (by rw [h]; exact hzz)
          refine bodyPost_ret (v := .tuple #[.agg #[.int .i64 3, .string xt, .int .u64 nv, .int .i64 0, .int .i64 0], .int .i64 q, .int .i64 ne]) (by simp [results, Tryz.results37, go_sem, hal, c0, c1, c2, c3, c4]) rfl ⟨HF.out, ?_⟩
          refine Below.alloc (a := w) (B := w.heap.size) ?_ (by simp [World.setCell]; omega) _
          repeat (first | (with_reducible exact HBz.out) | (with_reducible refine Below.setCell ?_ ?_ _) | (with_reducible exact Nat.le_refl _))
      · have hl' : isLet (r.headD 0) = true := by rw [HHd.out]; exact hl
        have sp := one_parts (r := r) (isLet_part hl')
        rw [hl] at HLt
        cases ho : ownB xt.data.toList
        · rw [ho] at HOw
          by_cases h16 : 16 < xt.size
          · have HF := Lib.hid (one_is (r := r) (a := a) (k := 1) (x := 0) (n := a) (t := xt) (er := 8) (by rw [one_long hl' (by rw [← hET]; exact ho) (by rw [← hET, ← size_len]; exact h16)]; rfl) (fun h => by rw [one_long hl' (by rw [← hET]; exact ho) (by rw [← hET, ← size_len]; exact h16)] at h; cases h))
            clear hl hl' sp ho hET hxl HNu HDg HSg hsg
            refine (HLt.out _).mono ?_
            rintro e w' ⟨rfl, rfl⟩
            go_wp2_with fail
            refine (HOw.out _).mono ?_
            rintro e w2 ⟨rfl, hB2⟩
            obtain ⟨d0, d1, d2, d3, d4, y0, y1, y2, y3, y4⟩ := (TokCells.newT wr (.int .i64 1) (.string xt) (.int .u64 0) (.int .i64 0) (.int .i64 0)).on' hB2
            obtain ⟨c0, c1, c2, c3, c4, z0, z1, z2, z3, z4⟩ := (HTz.out.on hzz ((Below.refl _ wr).alloc (Nat.le_refl _) (.cells #[.int .i64 1, .string xt, .int .u64 0, .int .i64 0, .int .i64 0] 52))).on' hB2
            have HB2 := Lib.hid ((HBz.out.alloc HBz.out.size (.cells #[.int .i64 1, .string xt, .int .u64 0, .int .i64 0, .int .i64 0] 52)).trans (hB2.mono (by simp; omega)))
            clear hB2 hAz hRz
            go_wp2_with fail
            refine bodyPost_ret (v := .tuple #[.agg #[.int .i64 1, .string xt, .int .u64 0, .int .i64 0, .int .i64 0], .int .i64 a, .int .i64 8]) (by simp [results, Tryz.results37, go_sem, c0, c1, c2, c3, c4]) rfl ⟨HF.out, ?_⟩
            repeat (first | (with_reducible exact HB2.out) | (with_reducible refine Below.setCell ?_ ?_ _) | (with_reducible exact Nat.le_refl _) | (with_reducible exact Nat.le_of_lt hzz))
          · obtain ⟨s1, s2, s3⟩ := one_name hl' (by rw [← hET]; exact ho) (by rw [← hET, ← size_len]; exact h16)
            have HF := Lib.hid (one_is (r := r) (a := a) (k := 1) (x := 0) (n := q) (t := xt) (er := 0) (by rw [s1]; rfl) (fun _ => ⟨s2.symm, by rw [sp.2.2.1, hET], s3.symm, by rw [sp.2.2.2.2, HQ.out]⟩))
            clear hl hl' sp ho hET hxl HNu HDg HSg hsg s1 s2 s3
            refine (HLt.out _).mono ?_
            rintro e w' ⟨rfl, rfl⟩
            go_wp2_with fail
            refine (HOw.out _).mono ?_
            rintro e w2 ⟨rfl, hB2⟩
            obtain ⟨d0, d1, d2, d3, d4, y0, y1, y2, y3, y4⟩ := (TokCells.newT wr (.int .i64 1) (.string xt) (.int .u64 0) (.int .i64 0) (.int .i64 0)).on' hB2
            obtain ⟨c0, c1, c2, c3, c4, z0, z1, z2, z3, z4⟩ := (HTz.out.on hzz ((Below.refl _ wr).alloc (Nat.le_refl _) (.cells #[.int .i64 1, .string xt, .int .u64 0, .int .i64 0, .int .i64 0] 52))).on' hB2
            have HB2 := Lib.hid ((HBz.out.alloc HBz.out.size (.cells #[.int .i64 1, .string xt, .int .u64 0, .int .i64 0, .int .i64 0] 52)).trans (hB2.mono (by simp; omega)))
            clear hB2 hAz hRz
            go_wp2_with fail
            refine bodyPost_ret (v := .tuple #[.agg #[.int .i64 1, .string xt, .int .u64 0, .int .i64 0, .int .i64 0], .int .i64 q, .int .i64 0]) (by simp [results, Tryz.results37, go_sem, c0, c1, c2, c3, c4]) rfl ⟨HF.out, ?_⟩
            repeat (first | (with_reducible exact HB2.out) | (with_reducible refine Below.setCell ?_ ?_ _) | (with_reducible exact Nat.le_refl _) | (with_reducible exact Nat.le_of_lt hzz))
        · rw [ho] at HOw
          obtain ⟨s1, s2, s3⟩ := one_own hl' (by rw [← hET]; exact ho)
          have HF := Lib.hid (one_is (r := r) (a := a) (k := 2) (x := 0) (n := q) (t := xt) (er := 0) (by rw [s1]; rfl) (fun _ => ⟨s2.symm, by rw [sp.2.2.1, hET], s3.symm, by rw [sp.2.2.2.2, HQ.out]⟩))
          have h16 : ¬ 16 < xt.size := by have := own_short ho; rw [hxl] at this; omega
          clear hl hl' sp ho hET hxl HNu HDg HSg hsg s1 s2 s3
          refine (HLt.out _).mono ?_
          rintro e w' ⟨rfl, rfl⟩
          go_wp2_with fail
          refine (HOw.out _).mono ?_
          rintro e w2 ⟨rfl, hB2⟩
          obtain ⟨d0, d1, d2, d3, d4, y0, y1, y2, y3, y4⟩ := (TokCells.newT wr (.int .i64 1) (.string xt) (.int .u64 0) (.int .i64 0) (.int .i64 0)).on' hB2
          obtain ⟨c0, c1, c2, c3, c4, z0, z1, z2, z3, z4⟩ := (HTz.out.on hzz ((Below.refl _ wr).alloc (Nat.le_refl _) (.cells #[.int .i64 1, .string xt, .int .u64 0, .int .i64 0, .int .i64 0] 52))).on' hB2
          have HB2 := Lib.hid ((HBz.out.alloc HBz.out.size (.cells #[.int .i64 1, .string xt, .int .u64 0, .int .i64 0, .int .i64 0] 52)).trans (hB2.mono (by simp; omega)))
          clear hB2 hAz hRz
          go_wp2_with fail
          refine bodyPost_ret (v := .tuple #[.agg #[.int .i64 2, .string xt, .int .u64 0, .int .i64 0, .int .i64 0], .int .i64 q, .int .i64 0]) (by simp [results, Tryz.results37, go_sem, c0, c1, c2, c3, c4]) rfl ⟨HF.out, ?_⟩
          repeat (first | (with_reducible exact HB2.out) | (with_reducible refine Below.setCell ?_ ?_ _) | (with_reducible exact Nat.le_refl _) | (with_reducible exact Nat.le_of_lt hzz))
end Go.Proofs.YtgffiggnmklcoaaGreatDoor
