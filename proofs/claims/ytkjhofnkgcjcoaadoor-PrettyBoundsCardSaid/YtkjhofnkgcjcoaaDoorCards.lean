/-
  DERIVED. GIVEN WITH THE SEED: THE CARDS: each row of YtkjhofnkgcjcoaaDoorRows.lean that lists a variable, with what it lists TIED to the program's text (the seventh form; the later family's looks); each row that meets fmt, with fmt's text TOLD by the authors' own Lean function (tested against real Go, not proved from fmt's source: count such statements apart). THE CARD IS WHAT COUNTS. Prove the row's statement (the work); the ties are given (YtkjhofnkgcjcoaaDoorTie.lean); close each card by the builder's one call (the guide's Derived/Test/ToyasCard.lean, 'card_holds'). Laid BY PROGRAM, IN A SANDBOX (cutbox-door.mjs). By AI agents, Wed Nov 11 2026. No macro, syntax, notation, axiom, sorry.
-/
import Derived.Test.YtkjhofnkgcjcoaaDoorRows
import GoSem.ClaimSeven
namespace Go.Proofs.YtkjhofnkgcjcoaaDoor
namespace Rows

/-- THE TIED CARD OF 'mufflelaw05.PrettyBounds'. -/
def prettyBoundsCard : Claim7 := { stood := { row := prettyBoundsRow, standIns := [], harness := (true, "cfcfd83c989efd2362d4321e69ef18139c0e764f65b939935475effbe6027f57"), looks := false }, kinds := [], alts := [], laidByText := true, laidKinds := [.data, .data, .data], laidTests := true, laidLooks := .later }
def PrettyBoundsCardSaid : Prop := Claim7.holds Tryd.pinned (.plain (OpenSpec.ofChange prettyBoundsSpec)) prettyBoundsCard

/-- THE SECOND FORM's CARD OF 'mufflelaw05.PrettyBounds'. -/
def prettyBoundsUptoCard : Claim7 := { stood := { row := prettyBoundsUptoRow, standIns := [], harness := (true, "cfcfd83c989efd2362d4321e69ef18139c0e764f65b939935475effbe6027f57"), looks := false }, kinds := [], alts := [], laidByText := true, laidKinds := [.data, .data, .data], laidTests := true, laidLooks := .later }
def PrettyBoundsUptoCardSaid : Prop := Claim7.holds Tryd.pinned (.plain (OpenSpec.upto prettyBoundsSpec)) prettyBoundsUptoCard
end Rows
end Go.Proofs.YtkjhofnkgcjcoaaDoor
