/-
  No cell of these rows narrows 'for every input' (looked for: loops, veiled, ifaces, maps, wideKeys, modest, calm, conditions, laid).
  DERIVED. THE GIVEN ROWS OF THIS SEAT. 8 by the template 'for every input the law returns true; each argument reads behind the call as it read before'; 0 by the template 'total and deterministic' (their statements: YtigkjmjkpjjjkaaTotals.lean).
  GIVEN WITH THE SEED: the statements are not yours to turn. If you find one false, say at which input.
  Laid BY PROGRAM, IN A SANDBOX (cutbox-rows.mjs): the forced cells as the released guide's own fill.sh prints them over the translation 64f98ac496262aef… (all of the seat's roots in one cut). By AI agents, Wed Nov 11 2026. No macro, syntax, notation, axiom, sorry.
-/
import Derived.Test.YtigkjmjkpjjjkaaChecked
import GoSem.Claim
import GoSem.ClaimJoined
import GoSem.ClaimMapViews
import Derived.JoinedTies
import Derived.KernelRfl
namespace Go.Proofs.Ytigkjmjkpjjjkaa
/- THE CELL 'sum', in the pinned program and in every row, IS THE sha256 OF THE DUMP (.gsa) THAT YtigkjmjkpjjjkaaProg.lean LOADS. Nothing in Lean hashes anything: it is a label: what it is worth is what the hold of that sum in a sandbox is worth. -/
noncomputable def Try.pinned : Pinned := { name := "ytigkjmjkpjjjkaa", sum := "64f98ac496262aef6cf21a3b45764c78e5cc0f74ce1b8835c00c17d9cce2b84f", checked := Try.checked }
namespace Rows
def none {H : Type} : Left H := { results := [], args := [] }

/-- 'mufflelaw03.MemMay': WHATEVER THE INPUT: true; the input reads as it did. -/
def memMaySpec : ChangeSpec := { name := "memMay", fn := fun _ => fun
  | [d] => { results := [.lit (.bool true)], args := [d] }
  | _ => none }
def memMayRow : OpenClaim := { program := "ytigkjmjkpjjjkaa", sum := "64f98ac496262aef6cf21a3b45764c78e5cc0f74ce1b8835c00c17d9cce2b84f", func := "muffle/mufflelaw03.MemMay", spec := "memMay", unfollowed := true, recurses := true, apart := false }
def MemMaySaid : Prop := memMayRow.holds Try.pinned (OpenSpec.ofChange memMaySpec)

/-- ITS FALSE NEIGHBOUR: 'it returns false'. Refute it at one input. -/
def memMayWrong : ChangeSpec := { name := "memMay", fn := fun _ => fun
  | [d] => { results := [.lit (.bool false)], args := [d] }
  | _ => none }
def MemMayWrongFalsely : Prop := memMayRow.holds Try.pinned (OpenSpec.ofChange memMayWrong)

/-- 'mufflelaw03.MemSteps': WHATEVER THE INPUT: true; the input reads as it did. -/
def memStepsSpec : ChangeSpec := { name := "memSteps", fn := fun _ => fun
  | [d1, d2, d3, d4, d5] => { results := [.lit (.bool true)], args := [d1, d2, d3, d4, d5] }
  | _ => none }
def memStepsRow : OpenClaim := { program := "ytigkjmjkpjjjkaa", sum := "64f98ac496262aef6cf21a3b45764c78e5cc0f74ce1b8835c00c17d9cce2b84f", func := "muffle/mufflelaw03.MemSteps", spec := "memSteps", unfollowed := true, recurses := true, apart := false }
def MemStepsSaid : Prop := memStepsRow.holds Try.pinned (OpenSpec.ofChange memStepsSpec)

/-- ITS FALSE NEIGHBOUR: 'it returns false'. Refute it at one input. -/
def memStepsWrong : ChangeSpec := { name := "memSteps", fn := fun _ => fun
  | [d1, d2, d3, d4, d5] => { results := [.lit (.bool false)], args := [d1, d2, d3, d4, d5] }
  | _ => none }
def MemStepsWrongFalsely : Prop := memStepsRow.holds Try.pinned (OpenSpec.ofChange memStepsWrong)

/-- 'mufflelaw03.MemPlaces': WHATEVER THE INPUT: true; the input reads as it did. -/
def memPlacesSpec : ChangeSpec := { name := "memPlaces", fn := fun _ => fun
  | [d1, d2, d3] => { results := [.lit (.bool true)], args := [d1, d2, d3] }
  | _ => none }
def memPlacesRow : OpenClaim := { program := "ytigkjmjkpjjjkaa", sum := "64f98ac496262aef6cf21a3b45764c78e5cc0f74ce1b8835c00c17d9cce2b84f", func := "muffle/mufflelaw03.MemPlaces", spec := "memPlaces", unfollowed := true, recurses := true, apart := false }
def MemPlacesSaid : Prop := memPlacesRow.holds Try.pinned (OpenSpec.ofChange memPlacesSpec)

/-- ITS FALSE NEIGHBOUR: 'it returns false'. Refute it at one input. -/
def memPlacesWrong : ChangeSpec := { name := "memPlaces", fn := fun _ => fun
  | [d1, d2, d3] => { results := [.lit (.bool false)], args := [d1, d2, d3] }
  | _ => none }
def MemPlacesWrongFalsely : Prop := memPlacesRow.holds Try.pinned (OpenSpec.ofChange memPlacesWrong)

/-- 'mufflelaw03.MemSame': WHATEVER THE INPUT: true; the input reads as it did. -/
def memSameSpec : ChangeSpec := { name := "memSame", fn := fun _ => fun
  | [d1, d2, d3, d4, d5, d6] => { results := [.lit (.bool true)], args := [d1, d2, d3, d4, d5, d6] }
  | _ => none }
def memSameRow : OpenClaim := { program := "ytigkjmjkpjjjkaa", sum := "64f98ac496262aef6cf21a3b45764c78e5cc0f74ce1b8835c00c17d9cce2b84f", func := "muffle/mufflelaw03.MemSame", spec := "memSame", unfollowed := true, recurses := true, apart := false }
def MemSameSaid : Prop := memSameRow.holds Try.pinned (OpenSpec.ofChange memSameSpec)

/-- ITS FALSE NEIGHBOUR: 'it returns false'. Refute it at one input. -/
def memSameWrong : ChangeSpec := { name := "memSame", fn := fun _ => fun
  | [d1, d2, d3, d4, d5, d6] => { results := [.lit (.bool false)], args := [d1, d2, d3, d4, d5, d6] }
  | _ => none }
def MemSameWrongFalsely : Prop := memSameRow.holds Try.pinned (OpenSpec.ofChange memSameWrong)

/-- 'mufflelaw03.MemMeans': WHATEVER THE INPUT: true; the input reads as it did. -/
def memMeansSpec : ChangeSpec := { name := "memMeans", fn := fun _ => fun
  | [d1, d2, d3, d4] => { results := [.lit (.bool true)], args := [d1, d2, d3, d4] }
  | _ => none }
def memMeansRow : OpenClaim := { program := "ytigkjmjkpjjjkaa", sum := "64f98ac496262aef6cf21a3b45764c78e5cc0f74ce1b8835c00c17d9cce2b84f", func := "muffle/mufflelaw03.MemMeans", spec := "memMeans", unfollowed := true, recurses := true, apart := false }
def MemMeansSaid : Prop := memMeansRow.holds Try.pinned (OpenSpec.ofChange memMeansSpec)

/-- ITS FALSE NEIGHBOUR: 'it returns false'. Refute it at one input. -/
def memMeansWrong : ChangeSpec := { name := "memMeans", fn := fun _ => fun
  | [d1, d2, d3, d4] => { results := [.lit (.bool false)], args := [d1, d2, d3, d4] }
  | _ => none }
def MemMeansWrongFalsely : Prop := memMeansRow.holds Try.pinned (OpenSpec.ofChange memMeansWrong)

/-- 'mufflelaw03.MemNil': WHATEVER THE INPUT: true; the input reads as it did. -/
def memNilSpec : ChangeSpec := { name := "memNil", fn := fun _ => fun
  | [] => { results := [.lit (.bool true)], args := [] }
  | _ => none }
def memNilRow : OpenClaim := { program := "ytigkjmjkpjjjkaa", sum := "64f98ac496262aef6cf21a3b45764c78e5cc0f74ce1b8835c00c17d9cce2b84f", func := "muffle/mufflelaw03.MemNil", spec := "memNil", unfollowed := true, recurses := true, apart := false }
def MemNilSaid : Prop := memNilRow.holds Try.pinned (OpenSpec.ofChange memNilSpec)

/-- ITS FALSE NEIGHBOUR: 'it returns false'. Refute it at one input. -/
def memNilWrong : ChangeSpec := { name := "memNil", fn := fun _ => fun
  | [] => { results := [.lit (.bool false)], args := [] }
  | _ => none }
def MemNilWrongFalsely : Prop := memNilRow.holds Try.pinned (OpenSpec.ofChange memNilWrong)

/-- 'mufflelaw03.MemBytes': WHATEVER THE INPUT: true; the input reads as it did. -/
def memBytesSpec : ChangeSpec := { name := "memBytes", fn := fun _ => fun
  | [d1, d2, d3] => { results := [.lit (.bool true)], args := [d1, d2, d3] }
  | _ => none }
def memBytesRow : OpenClaim := { program := "ytigkjmjkpjjjkaa", sum := "64f98ac496262aef6cf21a3b45764c78e5cc0f74ce1b8835c00c17d9cce2b84f", func := "muffle/mufflelaw03.MemBytes", spec := "memBytes", unfollowed := true, recurses := true, apart := false }
def MemBytesSaid : Prop := memBytesRow.holds Try.pinned (OpenSpec.ofChange memBytesSpec)

/-- ITS FALSE NEIGHBOUR: 'it returns false'. Refute it at one input. -/
def memBytesWrong : ChangeSpec := { name := "memBytes", fn := fun _ => fun
  | [d1, d2, d3] => { results := [.lit (.bool false)], args := [d1, d2, d3] }
  | _ => none }
def MemBytesWrongFalsely : Prop := memBytesRow.holds Try.pinned (OpenSpec.ofChange memBytesWrong)

/-- 'mufflelaw03.MemAgain': WHATEVER THE INPUT: true; the input reads as it did. -/
def memAgainSpec : ChangeSpec := { name := "memAgain", fn := fun _ => fun
  | [d1, d2, d3] => { results := [.lit (.bool true)], args := [d1, d2, d3] }
  | _ => none }
def memAgainRow : OpenClaim := { program := "ytigkjmjkpjjjkaa", sum := "64f98ac496262aef6cf21a3b45764c78e5cc0f74ce1b8835c00c17d9cce2b84f", func := "muffle/mufflelaw03.MemAgain", spec := "memAgain", unfollowed := true, recurses := true, apart := false }
def MemAgainSaid : Prop := memAgainRow.holds Try.pinned (OpenSpec.ofChange memAgainSpec)

/-- ITS FALSE NEIGHBOUR: 'it returns false'. Refute it at one input. -/
def memAgainWrong : ChangeSpec := { name := "memAgain", fn := fun _ => fun
  | [d1, d2, d3] => { results := [.lit (.bool false)], args := [d1, d2, d3] }
  | _ => none }
def MemAgainWrongFalsely : Prop := memAgainRow.holds Try.pinned (OpenSpec.ofChange memAgainWrong)

/- THE SECOND FORM. 'bulk': how many values and letters a reading holds, each counted each time it is reached (what is shared counts as often as it is met; a slice's spare places count too). A statement '..UptoSaid' is the law's where the arguments, and the package variables that the reading takes, are together of bulk at most 1048576: NARROWER than '..Said'. Prove '..Said' where nothing that the law and all that it calls make is longer than what came in: it says more and counts as full. Else prove '..UptoSaid'. A law counts once. -/
mutual
def uptoBulk {H : Type} : DataW H → Nat
  | .lit (.string bytes) => bytes.length + 1
  | .lit _ => 1
  | .nil => 1
  | .ptr d => uptoBulk d + 1
  | .slice elems spare => uptoBulkAll elems + uptoBulkAll spare + 1
  | .agg parts => uptoBulkAll parts + 1
  | .iface _ d => uptoBulk d + 1
  | .map entries => uptoBulkEntries entries + 1
  | .held _ => 1
def uptoBulkAll {H : Type} : List (DataW H) → Nat
  | [] => 0
  | d :: r => uptoBulk d + uptoBulkAll r
def uptoBulkEntries {H : Type} : List (Lit × DataW H) → Nat
  | [] => 0
  | x :: r => uptoBulkEntry x + uptoBulkEntries r
def uptoBulkEntry {H : Type} : Lit × DataW H → Nat
  | (.string bytes, d) => bytes.length + uptoBulk d + 1
  | (_, d) => uptoBulk d + 1
 end
def uptoSmall : (H : Type) → List (DataW H) → Bool := fun _ ds => decide (uptoBulkAll ds ≤ 1048576)
def OpenSpec.upto (s : _root_.Go.ChangeSpec) : _root_.Go.OpenSpec := { _root_.Go.OpenSpec.ofChange s with cond := some uptoSmall }

/-- 'mufflelaw03.MemMay', WHERE WHAT IT READS IS OF BULK AT MOST 1048576: true; the input reads as it did. -/
def memMayUptoRow : OpenClaim := { program := "ytigkjmjkpjjjkaa", sum := "64f98ac496262aef6cf21a3b45764c78e5cc0f74ce1b8835c00c17d9cce2b84f", func := "muffle/mufflelaw03.MemMay", spec := "memMay", unfollowed := true, recurses := true, apart := false, narrowed := true }
def MemMayUptoSaid : Prop := memMayUptoRow.holds Try.pinned (OpenSpec.upto memMaySpec)

/-- 'mufflelaw03.MemSteps', WHERE WHAT IT READS IS OF BULK AT MOST 1048576: true; the input reads as it did. -/
def memStepsUptoRow : OpenClaim := { program := "ytigkjmjkpjjjkaa", sum := "64f98ac496262aef6cf21a3b45764c78e5cc0f74ce1b8835c00c17d9cce2b84f", func := "muffle/mufflelaw03.MemSteps", spec := "memSteps", unfollowed := true, recurses := true, apart := false, narrowed := true }
def MemStepsUptoSaid : Prop := memStepsUptoRow.holds Try.pinned (OpenSpec.upto memStepsSpec)

/-- 'mufflelaw03.MemPlaces', WHERE WHAT IT READS IS OF BULK AT MOST 1048576: true; the input reads as it did. -/
def memPlacesUptoRow : OpenClaim := { program := "ytigkjmjkpjjjkaa", sum := "64f98ac496262aef6cf21a3b45764c78e5cc0f74ce1b8835c00c17d9cce2b84f", func := "muffle/mufflelaw03.MemPlaces", spec := "memPlaces", unfollowed := true, recurses := true, apart := false, narrowed := true }
def MemPlacesUptoSaid : Prop := memPlacesUptoRow.holds Try.pinned (OpenSpec.upto memPlacesSpec)

/-- 'mufflelaw03.MemSame', WHERE WHAT IT READS IS OF BULK AT MOST 1048576: true; the input reads as it did. -/
def memSameUptoRow : OpenClaim := { program := "ytigkjmjkpjjjkaa", sum := "64f98ac496262aef6cf21a3b45764c78e5cc0f74ce1b8835c00c17d9cce2b84f", func := "muffle/mufflelaw03.MemSame", spec := "memSame", unfollowed := true, recurses := true, apart := false, narrowed := true }
def MemSameUptoSaid : Prop := memSameUptoRow.holds Try.pinned (OpenSpec.upto memSameSpec)

/-- 'mufflelaw03.MemMeans', WHERE WHAT IT READS IS OF BULK AT MOST 1048576: true; the input reads as it did. -/
def memMeansUptoRow : OpenClaim := { program := "ytigkjmjkpjjjkaa", sum := "64f98ac496262aef6cf21a3b45764c78e5cc0f74ce1b8835c00c17d9cce2b84f", func := "muffle/mufflelaw03.MemMeans", spec := "memMeans", unfollowed := true, recurses := true, apart := false, narrowed := true }
def MemMeansUptoSaid : Prop := memMeansUptoRow.holds Try.pinned (OpenSpec.upto memMeansSpec)

/-- 'mufflelaw03.MemNil', WHERE WHAT IT READS IS OF BULK AT MOST 1048576: true; the input reads as it did. -/
def memNilUptoRow : OpenClaim := { program := "ytigkjmjkpjjjkaa", sum := "64f98ac496262aef6cf21a3b45764c78e5cc0f74ce1b8835c00c17d9cce2b84f", func := "muffle/mufflelaw03.MemNil", spec := "memNil", unfollowed := true, recurses := true, apart := false, narrowed := true }
def MemNilUptoSaid : Prop := memNilUptoRow.holds Try.pinned (OpenSpec.upto memNilSpec)

/-- 'mufflelaw03.MemBytes', WHERE WHAT IT READS IS OF BULK AT MOST 1048576: true; the input reads as it did. -/
def memBytesUptoRow : OpenClaim := { program := "ytigkjmjkpjjjkaa", sum := "64f98ac496262aef6cf21a3b45764c78e5cc0f74ce1b8835c00c17d9cce2b84f", func := "muffle/mufflelaw03.MemBytes", spec := "memBytes", unfollowed := true, recurses := true, apart := false, narrowed := true }
def MemBytesUptoSaid : Prop := memBytesUptoRow.holds Try.pinned (OpenSpec.upto memBytesSpec)

/-- 'mufflelaw03.MemAgain', WHERE WHAT IT READS IS OF BULK AT MOST 1048576: true; the input reads as it did. -/
def memAgainUptoRow : OpenClaim := { program := "ytigkjmjkpjjjkaa", sum := "64f98ac496262aef6cf21a3b45764c78e5cc0f74ce1b8835c00c17d9cce2b84f", func := "muffle/mufflelaw03.MemAgain", spec := "memAgain", unfollowed := true, recurses := true, apart := false, narrowed := true }
def MemAgainUptoSaid : Prop := memAgainUptoRow.holds Try.pinned (OpenSpec.upto memAgainSpec)

end Rows
end Go.Proofs.Ytigkjmjkpjjjkaa
