/-
  DERIVED. GIVEN WITH THE SEED: THE CARDS: each row of YtojgikaoiegmpaaGreatDoorRows.lean that lists a variable, with what it lists TIED to the program's text (the seventh form; the later family's looks); each row that meets fmt, with fmt's text TOLD by the authors' own Lean function (tested against real Go, not proved from fmt's source: count such statements apart). THE CARD IS WHAT COUNTS. Prove the row's statement (the work); the ties are given (YtojgikaoiegmpaaGreatDoorTie.lean); close each card by the builder's one call (the guide's Derived/Test/ToyasCard.lean, 'card_holds'). Laid BY PROGRAM, IN A SANDBOX (cutbox-door.mjs). By AI agents, Wed Nov 11 2026. No macro, syntax, notation, axiom, sorry.
-/
import Derived.Test.YtojgikaoiegmpaaGreatDoorRows
import GoSem.ClaimSeven
namespace Go.Proofs.YtojgikaoiegmpaaGreatDoor
namespace Rows

/-- THE TIED CARD OF 'retconlaw06.ProgTells'. -/
def progTellsCard : Claim7 := { stood := { row := progTellsRow, standIns := [], harness := (true, "b7b4ee3fe00b138766968eeec5515fa06caf2f92a84dbcaa720104f076989dcb"), looks := true }, kinds := [], alts := [], laidByText := true, laidKinds := [.data, .data], laidTests := true, laidLooks := .later }
def ProgTellsCardSaid : Prop := Claim7.holds Tryz.pinned (.plain (OpenSpec.ofChange progTellsSpec)) progTellsCard

/-- THE SECOND FORM's CARD OF 'retconlaw06.ProgTells'. -/
def progTellsUptoCard : Claim7 := { stood := { row := progTellsUptoRow, standIns := [], harness := (true, "b7b4ee3fe00b138766968eeec5515fa06caf2f92a84dbcaa720104f076989dcb"), looks := true }, kinds := [], alts := [], laidByText := true, laidKinds := [.data, .data], laidTests := true, laidLooks := .later }
def ProgTellsUptoCardSaid : Prop := Claim7.holds Tryz.pinned (.plain (OpenSpec.upto progTellsSpec)) progTellsUptoCard
end Rows
end Go.Proofs.YtojgikaoiegmpaaGreatDoor
