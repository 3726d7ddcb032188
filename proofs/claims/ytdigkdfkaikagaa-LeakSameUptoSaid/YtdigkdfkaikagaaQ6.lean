/- The law on the same: its walk. -/
import Derived.Test.YtdigkdfkaikagaaQ5
import Derived.Test.YtdigkdfkaikagaaP2
import Derived.Test.YtdigkdfkaikagaaK2
namespace Go.Proofs.Ytdigkdfkaikagaa
open Go.RowKit

def smallB (l : Lf) : Bool := decide (l.depth ≤ 60) && decide (l.weight ≤ 3000)
theorem smallB_few (l : Lf) (p : Option Addr) (cap N : Nat) (w : World) (h : l.In w N p) (hN : N ≤ w.heap.size) (hw : l.weight ≤ 1000000000) :
    Calls Try.prog 12 #[.slice p l.len cap] w fun e w' => e = .returned (.bool (smallB l)) ∧ Below w.heap.size w w' := few_any l p cap N w h hN hw
/-- the law's arguments, as they lie -/
structure Given5 (w : World) (a b : Lf) (s : List S3) (xs : List Int) (pa pb ps pi : Option Addr) (ca cb cs ci : Nat) : Prop where
  ha : a.In w w.heap.size pa
  hb : b.In w w.heap.size pb
  hs : S3In w w.heap.size s ps
  hi : Sl w.heap.size pi xs.length (Ints w xs)
  na : pa = none → ca = 0
  nb : pb = none → cb = 0
  ns : ps = none → cs = 0
  ni : pi = none → ci = 0
  hcs : s.length ≤ cs
  hcm : cs ≤ maxLen
  wa : a.weight ≤ 1000000000
  wb : b.weight ≤ 1000000000
section
variable (a b : Lf) (s : List S3) (n : Int) (xs : List Int) (pa pb ps pi : Option Addr) (ca cb cs ci : Nat) (w : World)

set_option maxRecDepth 100000 in
set_option maxHeartbeats 3200000 in
theorem same_a (G : Given5 w a b s xs pa pb ps pi ca cb cs ci) (hfa : smallB a = false) :
    Calls Try.prog 5 #[.slice pa a.len ca, .slice pb b.len cb, .slice ps s.length cs, .int .i64 n, .slice pi xs.length ci] w fun e w' => e = .returned (.bool true) ∧ Below w.heap.size w w' := by
  have HFa := Lib.hid (smallB_few a pa ca _ w G.ha (Nat.le_refl _) G.wa)
  have HFb := Lib.hid (fun (w1 : World) (hb : Below w.heap.size w w1) => smallB_few b pb cb _ w1 (G.hb.later hb (Nat.le_refl _)) hb.size G.wb)
  have hls := G.hs.1
  have hlx := G.hi.1
  clear G
  rw [hfa] at HFa
  go_enter Try.func5, Try.ntmps5
  go_wp2_with fail
  refine HFa.out.mono ?_
  rintro e w1 ⟨rfl, hB1⟩
  have HB := Lib.hid hB1
  clear hB1
  go_wp2_with fail
  refine (known_any _).mono ?_
  rintro e w9 ⟨rfl, hB9⟩
  have HB9 := Lib.hid (HB.out.trans (hB9.mono HB.out.size))
  clear hB9
  go_wp2_with fail
  go_ret
  exact ⟨rfl, HB9.out⟩

set_option maxRecDepth 100000 in
set_option maxHeartbeats 3200000 in
theorem same_b (G : Given5 w a b s xs pa pb ps pi ca cb cs ci) (hfa : smallB a = true) (hfb : smallB b = false) :
    Calls Try.prog 5 #[.slice pa a.len ca, .slice pb b.len cb, .slice ps s.length cs, .int .i64 n, .slice pi xs.length ci] w fun e w' => e = .returned (.bool true) ∧ Below w.heap.size w w' := by
  have HFa := Lib.hid (smallB_few a pa ca _ w G.ha (Nat.le_refl _) G.wa)
  have HFb := Lib.hid (fun (w1 : World) (hb : Below w.heap.size w w1) => smallB_few b pb cb _ w1 (G.hb.later hb (Nat.le_refl _)) hb.size G.wb)
  have hls := G.hs.1
  have hlx := G.hi.1
  clear G
  rw [hfa] at HFa
  rw [hfb] at HFb
  go_enter Try.func5, Try.ntmps5
  go_wp2_with fail
  refine HFa.out.mono ?_
  rintro e w1 ⟨rfl, hB1⟩
  have HB := Lib.hid hB1
  clear hB1
  go_wp2_with fail
  refine (HFb.out _ HB.out).mono ?_
  rintro e w2 ⟨rfl, hB2⟩
  replace HB := Lib.hid (HB.out.trans (hB2.mono HB.out.size))
  clear hB2
  go_wp2_with fail
  refine (known_any _).mono ?_
  rintro e w9 ⟨rfl, hB9⟩
  have HB9 := Lib.hid (HB.out.trans (hB9.mono HB.out.size))
  clear hB9
  go_wp2_with fail
  go_ret
  exact ⟨rfl, HB9.out⟩

set_option maxRecDepth 100000 in
set_option maxHeartbeats 3200000 in
theorem same_s (G : Given5 w a b s xs pa pb ps pi ca cb cs ci) (hfa : smallB a = true) (hfb : smallB b = true) (hsl : 3000 < s.length) :
    Calls Try.prog 5 #[.slice pa a.len ca, .slice pb b.len cb, .slice ps s.length cs, .int .i64 n, .slice pi xs.length ci] w fun e w' => e = .returned (.bool true) ∧ Below w.heap.size w w' := by
  have HFa := Lib.hid (smallB_few a pa ca _ w G.ha (Nat.le_refl _) G.wa)
  have HFb := Lib.hid (fun (w1 : World) (hb : Below w.heap.size w w1) => smallB_few b pb cb _ w1 (G.hb.later hb (Nat.le_refl _)) hb.size G.wb)
  have hls := G.hs.1
  have hlx := G.hi.1
  clear G
  rw [hfa] at HFa
  rw [hfb] at HFb
  go_enter Try.func5, Try.ntmps5
  go_wp2_with fail
  refine HFa.out.mono ?_
  rintro e w1 ⟨rfl, hB1⟩
  have HB := Lib.hid hB1
  clear hB1
  go_wp2_with fail
  refine (HFb.out _ HB.out).mono ?_
  rintro e w2 ⟨rfl, hB2⟩
  replace HB := Lib.hid (HB.out.trans (hB2.mono HB.out.size))
  clear hB2
  go_wp2_with fail
  refine (known_any _).mono ?_
  rintro e w9 ⟨rfl, hB9⟩
  have HB9 := Lib.hid (HB.out.trans (hB9.mono HB.out.size))
  clear hB9
  go_wp2_with fail
  go_ret
  exact ⟨rfl, HB9.out⟩

set_option maxRecDepth 100000 in
set_option maxHeartbeats 3200000 in
theorem same_i (G : Given5 w a b s xs pa pb ps pi ca cb cs ci) (hfa : smallB a = true) (hfb : smallB b = true) (hsl : s.length ≤ 3000) (hil : 100 < xs.length) :
    Calls Try.prog 5 #[.slice pa a.len ca, .slice pb b.len cb, .slice ps s.length cs, .int .i64 n, .slice pi xs.length ci] w fun e w' => e = .returned (.bool true) ∧ Below w.heap.size w w' := by
  have HFa := Lib.hid (smallB_few a pa ca _ w G.ha (Nat.le_refl _) G.wa)
  have HFb := Lib.hid (fun (w1 : World) (hb : Below w.heap.size w w1) => smallB_few b pb cb _ w1 (G.hb.later hb (Nat.le_refl _)) hb.size G.wb)
  have hls := G.hs.1
  have hlx := G.hi.1
  clear G
  rw [hfa] at HFa
  rw [hfb] at HFb
  go_enter Try.func5, Try.ntmps5
  go_wp2_with fail
  refine HFa.out.mono ?_
  rintro e w1 ⟨rfl, hB1⟩
  have HB := Lib.hid hB1
  clear hB1
  go_wp2_with fail
  refine (HFb.out _ HB.out).mono ?_
  rintro e w2 ⟨rfl, hB2⟩
  replace HB := Lib.hid (HB.out.trans (hB2.mono HB.out.size))
  clear hB2
  go_wp2_with fail
  refine (known_any _).mono ?_
  rintro e w9 ⟨rfl, hB9⟩
  have HB9 := Lib.hid (HB.out.trans (hB9.mono HB.out.size))
  clear hB9
  go_wp2_with fail
  go_ret
  exact ⟨rfl, HB9.out⟩
end
end Go.Proofs.Ytdigkdfkaikagaa
