/-
  DERIVED. GIVEN WITH THE SEED: THE CARDS: each row of YtlhbledakddbbaaDoorRows.lean that lists a variable, with what it lists TIED to the program's text (the seventh form; the later family's looks); each row that meets fmt, with fmt's text TOLD by the authors' own Lean function (tested against real Go, not proved from fmt's source: count such statements apart). THE CARD IS WHAT COUNTS. Prove the row's statement (the work); the ties are given (YtlhbledakddbbaaDoorTie.lean); close each card by the builder's one call (the guide's Derived/Test/ToyasCard.lean, 'card_holds'). Laid BY PROGRAM, IN A SANDBOX (cutbox-door.mjs). By AI agents, Wed Nov 11 2026. No macro, syntax, notation, axiom, sorry.
-/
import Derived.Test.YtlhbledakddbbaaDoorRows
import GoSem.ClaimSeven
namespace Go.Proofs.YtlhbledakddbbaaDoor
namespace Rows

/-- THE TIED CARD OF 'mufflelaw05.PrettySigns'. -/
def prettySignsCard : Claim7 := { stood := { row := prettySignsRow, standIns := [], harness := (true, "85089a3b4e4168a8e2ca8e45c36cea63e7c511f2274eb5d81cca21458eefba36"), looks := false }, kinds := [], alts := [], laidByText := true, laidKinds := [.data, .data, .data], laidTests := true, laidLooks := .later }
def PrettySignsCardSaid : Prop := Claim7.holds Tryd.pinned (.plain (OpenSpec.ofChange prettySignsSpec)) prettySignsCard

/-- THE TIED CARD OF 'mufflelaw05.PrettyBounds'. -/
def prettyBoundsCard : Claim7 := { stood := { row := prettyBoundsRow, standIns := [], harness := (true, "85089a3b4e4168a8e2ca8e45c36cea63e7c511f2274eb5d81cca21458eefba36"), looks := false }, kinds := [], alts := [], laidByText := true, laidKinds := [.data, .data, .data], laidTests := true, laidLooks := .later }
def PrettyBoundsCardSaid : Prop := Claim7.holds Tryd.pinned (.plain (OpenSpec.ofChange prettyBoundsSpec)) prettyBoundsCard

/-- THE SECOND FORM's CARD OF 'mufflelaw05.PrettySigns'. -/
def prettySignsUptoCard : Claim7 := { stood := { row := prettySignsUptoRow, standIns := [], harness := (true, "85089a3b4e4168a8e2ca8e45c36cea63e7c511f2274eb5d81cca21458eefba36"), looks := false }, kinds := [], alts := [], laidByText := true, laidKinds := [.data, .data, .data], laidTests := true, laidLooks := .later }
def PrettySignsUptoCardSaid : Prop := Claim7.holds Tryd.pinned (.plain (OpenSpec.upto prettySignsSpec)) prettySignsUptoCard

/-- THE SECOND FORM's CARD OF 'mufflelaw05.PrettyBounds'. -/
def prettyBoundsUptoCard : Claim7 := { stood := { row := prettyBoundsUptoRow, standIns := [], harness := (true, "85089a3b4e4168a8e2ca8e45c36cea63e7c511f2274eb5d81cca21458eefba36"), looks := false }, kinds := [], alts := [], laidByText := true, laidKinds := [.data, .data, .data], laidTests := true, laidLooks := .later }
def PrettyBoundsUptoCardSaid : Prop := Claim7.holds Tryd.pinned (.plain (OpenSpec.upto prettyBoundsSpec)) prettyBoundsUptoCard
end Rows
end Go.Proofs.YtlhbledakddbbaaDoor
