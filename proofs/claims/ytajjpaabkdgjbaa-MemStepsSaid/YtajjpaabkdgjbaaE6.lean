/- The law MemSame, walked. -/
import Derived.Test.YtajjpaabkdgjbaaE5
import Derived.Test.YtajjpaabkdgjbaaKN
namespace Go.Proofs.Ytajjpaabkdgjbaa
open Go.RowKit

theorem MemIs.bd {w : World} {B g : Nat} {l : List Rg} {f : Nat → Nat} (h : MemIs w B g l f) : ∀ j, f j < 18446744073709551616 := by
  obtain ⟨p, c, q, h1, h2, h3, h4, h5, h6, h7, h8, h9, h10, h11, h12, h13⟩ := h
  exact h13
set_option maxRecDepth 100000 in
set_option maxHeartbeats 12800000 in
theorem same_law (l k : List Rg) (xs ys : List (List Nat)) (ss ts : List Stp) (p q p2 q2 p3 q3 : Option Addr) (c d c2 d2 c3 d3 : Nat) (w : World)
    (hl : RgIn w w.heap.size l p) (hk : RgIn w w.heap.size k q) (hx : WsIn w w.heap.size xs p2) (hy : WsIn w w.heap.size ys q2) (hs : StpIn w w.heap.size ss p3) (ht : StpIn w w.heap.size ts q3)
    (hc : l.length ≤ c) (hcm : c ≤ 9223372036854775807) (hp : p = none → c = 0) (hd : k.length ≤ d) (hdm : d ≤ 9223372036854775807) (hq : q = none → d = 0) :
    Calls Try.prog 4 #[.slice p l.length c, .slice q k.length d, .slice p2 xs.length c2, .slice q2 ys.length d2, .slice p3 ss.length c3, .slice q3 ts.length d3] w fun e w' => e = .returned (.bool true) ∧ Below w.heap.size w w' := by
  have HK : Hid (∀ w', Below w.heap.size w w' → Calls Try.prog 7 #[] w' fun e w'' => e = .returned (.bool true) ∧ Below w.heap.size w w'') := Lib.hid fun w' hB => (known_any w').mono fun e w'' h => ⟨h.1, hB.trans (h.2.mono hB.size)⟩
  have HLl : Hid (∀ w', Below w.heap.size w w' → Calls Try.prog 6 #[.slice p l.length c] w' fun e w'' => e = .returned (.bool (longB l)) ∧ Below w.heap.size w w'') := Lib.hid fun w' hB => (long_any l p c _ w' (hl.later hB (Nat.le_refl _))).mono fun e w'' h => ⟨h.1, h.2 ▸ hB⟩
  have HLk : Hid (∀ w', Below w.heap.size w w' → Calls Try.prog 6 #[.slice q k.length d] w' fun e w'' => e = .returned (.bool (longB k)) ∧ Below w.heap.size w w'') := Lib.hid fun w' hB => (long_any k q d _ w' (hk.later hB (Nat.le_refl _))).mono fun e w'' h => ⟨h.1, h.2 ▸ hB⟩
  have HMl : Hid (∀ w', Below w.heap.size w w' → Calls Try.prog 8 #[.slice p l.length c] w' fun e w'' => e = .returned (.bool (mayB l)) ∧ Below w.heap.size w w'') := Lib.hid fun w' hB => (refMay_any l p c _ w' (hl.later hB (Nat.le_refl _)) hB.size).mono fun e w'' h => ⟨h.1, hB.trans (h.2.mono hB.size)⟩
  have HMk : Hid (∀ w', Below w.heap.size w w' → Calls Try.prog 8 #[.slice q k.length d] w' fun e w'' => e = .returned (.bool (mayB k)) ∧ Below w.heap.size w w'') := Lib.hid fun w' hB => (refMay_any k q d _ w' (hk.later hB (Nat.le_refl _)) hB.size).mono fun e w'' h => ⟨h.1, hB.trans (h.2.mono hB.size)⟩
  have HFl : Hid (∀ w', Below w.heap.size w w' → Calls Try.prog 9 #[.slice p l.length c, .slice p2 xs.length c2] w' fun e w'' => e = .returned (.bool (fitsB l xs)) ∧ Below w.heap.size w w'') := Lib.hid fun w' hB => (refFits_any l xs p p2 c c2 _ w' (hl.later hB (Nat.le_refl _)) (hx.later hB (Nat.le_refl _)) hB.size).mono fun e w'' h => ⟨h.1, hB.trans (h.2.mono hB.size)⟩
  have HFk : Hid (∀ w', Below w.heap.size w w' → Calls Try.prog 9 #[.slice q k.length d, .slice q2 ys.length d2] w' fun e w'' => e = .returned (.bool (fitsB k ys)) ∧ Below w.heap.size w w'') := Lib.hid fun w' hB => (refFits_any k ys q q2 d d2 _ w' (hk.later hB (Nat.le_refl _)) (hy.later hB (Nat.le_refl _)) hB.size).mono fun e w'' h => ⟨h.1, hB.trans (h.2.mono hB.size)⟩
  have HPl : Hid (mayB l = true → fitsB l xs = true → ∀ w', Below w.heap.size w w' → Calls Try.prog 12 #[.slice p l.length c, .slice p2 xs.length c2, .slice p3 ss.length c3] w' (PlayPost l w')) := Lib.hid fun hm hf w' hB => play_any l xs ss p p2 p3 c c2 c3 _ w' (hl.later hB (Nat.le_refl _)) (hx.later hB (Nat.le_refl _)) (hs.later hB (Nat.le_refl _)) hB.size hc hcm hp hm hf
  have HPk : Hid (mayB k = true → fitsB k ys = true → ∀ w', Below w.heap.size w w' → Calls Try.prog 12 #[.slice q k.length d, .slice q2 ys.length d2, .slice q3 ts.length d3] w' (PlayPost k w')) := Lib.hid fun hm hf w' hB => play_any k ys ts q q2 q3 d d2 d3 _ w' (hk.later hB (Nat.le_refl _)) (hy.later hB (Nat.le_refl _)) (ht.later hB (Nat.le_refl _)) hB.size hd hdm hq hm hf
  have hm1 := hs.1
  have hm2 := ht.1
  have HB : Hid (Below w.heap.size w w) := Lib.hid (Below.refl _ w)
  generalize longB l = b1 at HLl
  generalize longB k = b2 at HLk
  generalize mayB l = b3 at HMl HPl
  generalize mayB k = b4 at HMk HPk
  generalize fitsB l xs = b5 at HFl HPl
  generalize fitsB k ys = b6 at HFk HPk
  clear hl hk hx hy hs ht hc hcm hp hd hdm hq
  go_enter Try.func4, Try.ntmps4
  go_wp2_with fail
  refine (HLl.out _ ?_).mono ?_
  · first | exact HB.out | exact HB.out.drew
  rintro e wa ⟨rfl, hB⟩
  replace HB := Lib.hid hB
  clear hB HLl
  cases b1 with
  | true =>
    go_wp2_with fail
    refine (HK.out _ ?_).mono ?_
    · first | exact HB.out | exact HB.out.drew
    rintro e wa ⟨rfl, hB⟩
    replace HB := Lib.hid hB
    clear hB 
    go_wp2_with fail
    go_ret
    exact ⟨rfl, HB.out⟩
  | false =>
    go_wp2_with fail
    refine (HLk.out _ ?_).mono ?_
    · first | exact HB.out | exact HB.out.drew
    rintro e wa ⟨rfl, hB⟩
    replace HB := Lib.hid hB
    clear hB HLk
    cases b2 with
    | true =>
      go_wp2_with fail
      refine (HK.out _ ?_).mono ?_
      · first | exact HB.out | exact HB.out.drew
      rintro e wa ⟨rfl, hB⟩
      replace HB := Lib.hid hB
      clear hB 
      go_wp2_with fail
      go_ret
      exact ⟨rfl, HB.out⟩
    | false =>
      go_wp2_with fail
      refine (HMl.out _ ?_).mono ?_
      · first | exact HB.out | exact HB.out.drew
      rintro e wa ⟨rfl, hB⟩
      replace HB := Lib.hid hB
      clear hB HMl
      cases b3 with
      | false =>
        go_wp2_with fail
        refine (HK.out _ ?_).mono ?_
        · first | exact HB.out | exact HB.out.drew
        rintro e wa ⟨rfl, hB⟩
        replace HB := Lib.hid hB
        clear hB 
        go_wp2_with fail
        go_ret
        exact ⟨rfl, HB.out⟩
      | true =>
        go_wp2_with fail
        refine (HMk.out _ ?_).mono ?_
        · first | exact HB.out | exact HB.out.drew
        rintro e wa ⟨rfl, hB⟩
        replace HB := Lib.hid hB
        clear hB HMk
        cases b4 with
        | false =>
          go_wp2_with fail
          refine (HK.out _ ?_).mono ?_
          · first | exact HB.out | exact HB.out.drew
          rintro e wa ⟨rfl, hB⟩
          replace HB := Lib.hid hB
          clear hB 
          go_wp2_with fail
          go_ret
          exact ⟨rfl, HB.out⟩
        | true =>
          go_wp2_with fail
          refine (HFl.out _ ?_).mono ?_
          · first | exact HB.out | exact HB.out.drew
          rintro e wa ⟨rfl, hB⟩
          replace HB := Lib.hid hB
          clear hB HFl
          cases b5 with
          | false =>
            go_wp2_with fail
            refine (HK.out _ ?_).mono ?_
            · first | exact HB.out | exact HB.out.drew
            rintro e wa ⟨rfl, hB⟩
            replace HB := Lib.hid hB
            clear hB 
            go_wp2_with fail
            go_ret
            exact ⟨rfl, HB.out⟩
          | true =>
            go_wp2_with fail
            refine (HFk.out _ ?_).mono ?_
            · first | exact HB.out | exact HB.out.drew
            rintro e wa ⟨rfl, hB⟩
            replace HB := Lib.hid hB
            clear hB HFk
            cases b6 with
            | false =>
              go_wp2_with fail
              refine (HK.out _ ?_).mono ?_
              · first | exact HB.out | exact HB.out.drew
              rintro e wa ⟨rfl, hB⟩
              replace HB := Lib.hid hB
              clear hB 
              go_wp2_with fail
              go_ret
              exact ⟨rfl, HB.out⟩
            | true =>
              by_cases hss : 60 < ss.length
              · skip
                go_wp2_with fail
                refine (HK.out _ ?_).mono ?_
                · first | exact HB.out | exact HB.out.drew
                rintro e wa ⟨rfl, hB⟩
                replace HB := Lib.hid hB
                clear hB 
                go_wp2_with fail
                go_ret
                exact ⟨rfl, HB.out⟩
              · skip
                by_cases hts : 60 < ts.length
                · skip
                  go_wp2_with fail
                  refine (HK.out _ ?_).mono ?_
                  · first | exact HB.out | exact HB.out.drew
                  rintro e wa ⟨rfl, hB⟩
                  replace HB := Lib.hid hB
                  clear hB 
                  go_wp2_with fail
                  go_ret
                  exact ⟨rfl, HB.out⟩
                · skip
                  go_wp2_with fail
                  refine (HPl.out (by trivial) (by trivial) _ ?_).mono ?_
                  · first | exact HB.out | exact HB.out.drew
                  rintro e w1 ⟨B1, g1, C1, r1, f1, t1, rfl, hI, hR, hrl, _, _, _, hB⟩
                  replace HB := Lib.hid (HB.out.trans (Below.mono (by first | exact hB | exact (Below.refl _ _).drew.trans (hB.mono (by simp))) HB.out.size))
                  have HI1 := Lib.hid hI
                  have HR1 := Lib.hid hR
                  have HT1 := Lib.hid hrl
                  clear hB hI hR hrl HPl
                  go_wp2_with fail
                  refine (HPk.out (by trivial) (by trivial) _ ?_).mono ?_
                  · first | exact HB.out | exact HB.out.drew
                  rintro e w2 ⟨B2, g2, C2, r2, f2, t2, rfl, hI, hR, hrl, _, _, _, hB⟩
                  replace HB := Lib.hid (HB.out.trans (Below.mono (by first | exact hB | exact (Below.refl _ _).drew.trans (hB.mono (by simp))) HB.out.size))
                  have HI2 := Lib.hid hI
                  have HR2 := Lib.hid hR
                  have HT2 := Lib.hid hrl
                  replace HI1 := Lib.hid (HI1.out.later hB)
                  replace HR1 := Lib.hid (HR1.out.later hB)
                  clear hB hI hR hrl HPk
                  have HS := Lib.hid (fun (w' : World) (hb : Below w2.heap.size w2 w') => memSame_any l k f1 f2 B1 g1 B2 g2 w' (HI1.out.later hb) (HI2.out.later hb))
                  have HZ := Lib.hid (fun (w' : World) (hb : Below w2.heap.size w2 w') => refSame_any l k f1 f2 t1 t2 C1 r1 C2 r2 w' (HR1.out.later hb) (HR2.out.later hb) HT1.out HT2.out HI1.out.bd HI2.out.bd)
                  have HY := Lib.hid (fun (w' : World) (hb : Below w2.heap.size w2 w') => by have := memSame_any l l f1 f1 B1 g1 B1 g1 w' (HI1.out.later hb) (HI1.out.later hb); rw [memB_self] at this; exact this)
                  generalize memB l k f1 f2 = v at HS HZ
                  have HD : Hid (Below w2.heap.size w2 w2) := Lib.hid (Below.refl _ _)
                  clear HI1 HI2 HR1 HR2 HT1 HT2
                  cases v
                  · skip
                    go_wp2_with fail
                    refine (HS.out _ ?_).mono ?_
                    · first | exact HD.out | exact HD.out.drew
                    rintro e wb ⟨rfl, hB⟩
                    replace HD := Lib.hid (HD.out.trans (Below.mono (by first | exact hB | exact (Below.refl _ _).drew.trans (hB.mono (by simp))) HD.out.size))
                    clear hB HS
                    go_wp2_with fail
                    refine (HZ.out _ ?_).mono ?_
                    · first | exact HD.out | exact HD.out.drew
                    rintro e wb ⟨rfl, hB⟩
                    replace HD := Lib.hid (HD.out.trans (Below.mono (by first | exact hB | exact (Below.refl _ _).drew.trans (hB.mono (by simp))) HD.out.size))
                    clear hB HZ
                    go_wp2_with fail
                    refine (HY.out _ ?_).mono ?_
                    · first | exact HD.out | exact HD.out.drew
                    rintro e wb ⟨rfl, hB⟩
                    replace HD := Lib.hid (HD.out.trans (Below.mono (by first | exact hB | exact (Below.refl _ _).drew.trans (hB.mono (by simp))) HD.out.size))
                    clear hB HY
                    replace HB := Lib.hid (HB.out.trans (HD.out.mono HB.out.size))
                    go_wp2_with fail
                    refine (HK.out _ ?_).mono ?_
                    · first | exact HB.out | exact HB.out.drew
                    rintro e wa ⟨rfl, hB⟩
                    replace HB := Lib.hid hB
                    clear hB 
                    go_wp2_with fail
                    go_ret
                    exact ⟨rfl, HB.out⟩
                  · skip
                    go_wp2_with fail
                    refine (HS.out _ ?_).mono ?_
                    · first | exact HD.out | exact HD.out.drew
                    rintro e wb ⟨rfl, hB⟩
                    replace HD := Lib.hid (HD.out.trans (Below.mono (by first | exact hB | exact (Below.refl _ _).drew.trans (hB.mono (by simp))) HD.out.size))
                    clear hB HS
                    go_wp2_with fail
                    refine (HZ.out _ ?_).mono ?_
                    · first | exact HD.out | exact HD.out.drew
                    rintro e wb ⟨rfl, hB⟩
                    replace HD := Lib.hid (HD.out.trans (Below.mono (by first | exact hB | exact (Below.refl _ _).drew.trans (hB.mono (by simp))) HD.out.size))
                    clear hB HZ
                    go_wp2_with fail
                    refine (HY.out _ ?_).mono ?_
                    · first | exact HD.out | exact HD.out.drew
                    rintro e wb ⟨rfl, hB⟩
                    replace HD := Lib.hid (HD.out.trans (Below.mono (by first | exact hB | exact (Below.refl _ _).drew.trans (hB.mono (by simp))) HD.out.size))
                    clear hB HY
                    replace HB := Lib.hid (HB.out.trans (HD.out.mono HB.out.size))
                    go_wp2_with fail
                    refine (HK.out _ ?_).mono ?_
                    · first | exact HB.out | exact HB.out.drew
                    rintro e wa ⟨rfl, hB⟩
                    replace HB := Lib.hid hB
                    clear hB 
                    go_wp2_with fail
                    go_ret
                    exact ⟨rfl, HB.out⟩
end Go.Proofs.Ytajjpaabkdgjbaa
