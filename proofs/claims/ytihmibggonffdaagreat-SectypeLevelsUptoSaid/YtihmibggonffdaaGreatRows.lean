/-
  NARROWER THAN 'FOR EVERY INPUT', by the rows' own cells (each row's printed sentence says how): SectypeChecks: loops · SectypeLevels: loops · SectypeAlike: loops.
  DERIVED. THE GIVEN ROWS OF THIS SEAT. 3 by the template 'for every input the law returns true; each argument reads behind the call as it read before'; 0 by the template 'total and deterministic' (their statements: YtihmibggonffdaaGreatTotals.lean).
  GIVEN WITH THE SEED: the statements are not yours to turn. If you find one false, say at which input.
  Laid BY PROGRAM, IN A SANDBOX (cutbox-rows.mjs): the forced cells as the released guide's own fill.sh prints them over the translation 5262506589de6962… (all of the seat's roots in one cut). By AI agents, Wed Nov 11 2026. No macro, syntax, notation, axiom, sorry.
-/
import Derived.Test.YtihmibggonffdaaGreatChecked
import GoSem.Claim
import GoSem.ClaimJoined
import GoSem.ClaimMapViews
import Derived.JoinedTies
import Derived.KernelRfl
namespace Go.Proofs.YtihmibggonffdaaGreat
/- THE CELL 'sum', in the pinned program and in every row, IS THE sha256 OF THE DUMP (.gsa) THAT YtihmibggonffdaaGreatProg.lean LOADS. Nothing in Lean hashes anything: it is a label: what it is worth is what the hold of that sum in a sandbox is worth. -/
noncomputable def Tryz.pinned : Pinned := { name := "ytihmibggonffdaagreat", sum := "5262506589de696266257f80bc17cbd07f420cf453e3118ea31240cc4ceb9375", checked := Tryz.checked }
namespace Rows
def none {H : Type} : Left H := { results := [], args := [] }

/-- 'mufflelaw09.SectypeChecks': WHATEVER THE INPUT: true; the input reads as it did. -/
def sectypeChecksSpec : ChangeSpec := { name := "sectypeChecks", fn := fun _ => fun
  | [d] => { results := [.lit (.bool true)], args := [d] }
  | _ => none }
def sectypeChecksRow : OpenClaim := { program := "ytihmibggonffdaagreat", sum := "5262506589de696266257f80bc17cbd07f420cf453e3118ea31240cc4ceb9375", func := "muffle/mufflelaw09.SectypeChecks", spec := "sectypeChecks", inPlace := ["maps.clone"], unfollowed := true, recurses := true, loops := true, plainKeys := false, apart := false }
def SectypeChecksSaid : Prop := sectypeChecksRow.holds Tryz.pinned (OpenSpec.ofChange sectypeChecksSpec)

/-- ITS FALSE NEIGHBOUR: 'it returns false'. Refute it at one input. -/
def sectypeChecksWrong : ChangeSpec := { name := "sectypeChecks", fn := fun _ => fun
  | [d] => { results := [.lit (.bool false)], args := [d] }
  | _ => none }
def SectypeChecksWrongFalsely : Prop := sectypeChecksRow.holds Tryz.pinned (OpenSpec.ofChange sectypeChecksWrong)

/-- 'mufflelaw09.SectypeLevels': WHATEVER THE INPUT: true; the input reads as it did. -/
def sectypeLevelsSpec : ChangeSpec := { name := "sectypeLevels", fn := fun _ => fun
  | [d1, d2, d3, d4] => { results := [.lit (.bool true)], args := [d1, d2, d3, d4] }
  | _ => none }
def sectypeLevelsRow : OpenClaim := { program := "ytihmibggonffdaagreat", sum := "5262506589de696266257f80bc17cbd07f420cf453e3118ea31240cc4ceb9375", func := "muffle/mufflelaw09.SectypeLevels", spec := "sectypeLevels", inPlace := ["maps.clone"], unfollowed := true, recurses := true, loops := true, plainKeys := false, apart := false }
def SectypeLevelsSaid : Prop := sectypeLevelsRow.holds Tryz.pinned (OpenSpec.ofChange sectypeLevelsSpec)

/-- ITS FALSE NEIGHBOUR: 'it returns false'. Refute it at one input. -/
def sectypeLevelsWrong : ChangeSpec := { name := "sectypeLevels", fn := fun _ => fun
  | [d1, d2, d3, d4] => { results := [.lit (.bool false)], args := [d1, d2, d3, d4] }
  | _ => none }
def SectypeLevelsWrongFalsely : Prop := sectypeLevelsRow.holds Tryz.pinned (OpenSpec.ofChange sectypeLevelsWrong)

/-- 'mufflelaw09.SectypeAlike': WHATEVER THE INPUT: true; the input reads as it did. -/
def sectypeAlikeSpec : ChangeSpec := { name := "sectypeAlike", fn := fun _ => fun
  | [d1, d2, d3] => { results := [.lit (.bool true)], args := [d1, d2, d3] }
  | _ => none }
def sectypeAlikeRow : OpenClaim := { program := "ytihmibggonffdaagreat", sum := "5262506589de696266257f80bc17cbd07f420cf453e3118ea31240cc4ceb9375", func := "muffle/mufflelaw09.SectypeAlike", spec := "sectypeAlike", inPlace := ["maps.clone"], unfollowed := true, recurses := true, loops := true, plainKeys := false, apart := false }
def SectypeAlikeSaid : Prop := sectypeAlikeRow.holds Tryz.pinned (OpenSpec.ofChange sectypeAlikeSpec)

/-- ITS FALSE NEIGHBOUR: 'it returns false'. Refute it at one input. -/
def sectypeAlikeWrong : ChangeSpec := { name := "sectypeAlike", fn := fun _ => fun
  | [d1, d2, d3] => { results := [.lit (.bool false)], args := [d1, d2, d3] }
  | _ => none }
def SectypeAlikeWrongFalsely : Prop := sectypeAlikeRow.holds Tryz.pinned (OpenSpec.ofChange sectypeAlikeWrong)

/- THE SECOND FORM. 'bulk': how many values and letters a reading holds, each counted each time it is reached (what is shared counts as often as it is met; a slice's spare places count too). A statement '..UptoSaid' is the law's where the arguments, and the package variables that the reading takes, are together of bulk at most 1048576: NARROWER than '..Said'. Prove '..Said' where nothing that the law and all that it calls make is longer than what came in: it says more and counts as full. Else prove '..UptoSaid'. A law counts once. -/
mutual
def uptoBulk {H : Type} : DataW H → Nat
  | .lit (.string bytes) => bytes.length + 1
  | .lit _ => 1
  | .nil => 1
  | .ptr d => uptoBulk d + 1
  | .slice elems spare => uptoBulkAll elems + uptoBulkAll spare + 1
  | .agg parts => uptoBulkAll parts + 1
  | .iface _ d => uptoBulk d + 1
  | .map entries => uptoBulkEntries entries + 1
  | .held _ => 1
def uptoBulkAll {H : Type} : List (DataW H) → Nat
  | [] => 0
  | d :: r => uptoBulk d + uptoBulkAll r
def uptoBulkEntries {H : Type} : List (Lit × DataW H) → Nat
  | [] => 0
  | x :: r => uptoBulkEntry x + uptoBulkEntries r
def uptoBulkEntry {H : Type} : Lit × DataW H → Nat
  | (.string bytes, d) => bytes.length + uptoBulk d + 1
  | (_, d) => uptoBulk d + 1
 end
def uptoSmall : (H : Type) → List (DataW H) → Bool := fun _ ds => decide (uptoBulkAll ds ≤ 1048576)
def OpenSpec.upto (s : _root_.Go.ChangeSpec) : _root_.Go.OpenSpec := { _root_.Go.OpenSpec.ofChange s with cond := some uptoSmall }

/-- 'mufflelaw09.SectypeChecks', WHERE WHAT IT READS IS OF BULK AT MOST 1048576: true; the input reads as it did. -/
def sectypeChecksUptoRow : OpenClaim := { program := "ytihmibggonffdaagreat", sum := "5262506589de696266257f80bc17cbd07f420cf453e3118ea31240cc4ceb9375", func := "muffle/mufflelaw09.SectypeChecks", spec := "sectypeChecks", inPlace := ["maps.clone"], unfollowed := true, recurses := true, loops := true, plainKeys := false, apart := false, narrowed := true }
def SectypeChecksUptoSaid : Prop := sectypeChecksUptoRow.holds Tryz.pinned (OpenSpec.upto sectypeChecksSpec)

/-- 'mufflelaw09.SectypeLevels', WHERE WHAT IT READS IS OF BULK AT MOST 1048576: true; the input reads as it did. -/
def sectypeLevelsUptoRow : OpenClaim := { program := "ytihmibggonffdaagreat", sum := "5262506589de696266257f80bc17cbd07f420cf453e3118ea31240cc4ceb9375", func := "muffle/mufflelaw09.SectypeLevels", spec := "sectypeLevels", inPlace := ["maps.clone"], unfollowed := true, recurses := true, loops := true, plainKeys := false, apart := false, narrowed := true }
def SectypeLevelsUptoSaid : Prop := sectypeLevelsUptoRow.holds Tryz.pinned (OpenSpec.upto sectypeLevelsSpec)

/-- 'mufflelaw09.SectypeAlike', WHERE WHAT IT READS IS OF BULK AT MOST 1048576: true; the input reads as it did. -/
def sectypeAlikeUptoRow : OpenClaim := { program := "ytihmibggonffdaagreat", sum := "5262506589de696266257f80bc17cbd07f420cf453e3118ea31240cc4ceb9375", func := "muffle/mufflelaw09.SectypeAlike", spec := "sectypeAlike", inPlace := ["maps.clone"], unfollowed := true, recurses := true, loops := true, plainKeys := false, apart := false, narrowed := true }
def SectypeAlikeUptoSaid : Prop := sectypeAlikeUptoRow.holds Tryz.pinned (OpenSpec.upto sectypeAlikeSpec)

end Rows
end Go.Proofs.YtihmibggonffdaaGreat
