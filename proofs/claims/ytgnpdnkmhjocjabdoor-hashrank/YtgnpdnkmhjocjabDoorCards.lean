/-
  DERIVED. GIVEN WITH THE SEED: THE CARDS: each row of YtgnpdnkmhjocjabDoorRows.lean that lists a variable, with what it lists TIED to the program's text (the seventh form; the later family's looks); each row that meets fmt, with fmt's text TOLD by the authors' own Lean function (tested against real Go, not proved from fmt's source: count such statements apart). THE CARD IS WHAT COUNTS. Prove the row's statement (the work); the ties are given (YtgnpdnkmhjocjabDoorTie.lean); close each card by the builder's one call (the guide's Derived/Test/ToyasCard.lean, 'card_holds'). Laid BY PROGRAM, IN A SANDBOX (cutbox-door.mjs). By AI agents, Wed Nov 11 2026. No macro, syntax, notation, axiom, sorry.
-/
import Derived.Test.YtgnpdnkmhjocjabDoorRows
import GoSem.ClaimSeven
namespace Go.Proofs.YtgnpdnkmhjocjabDoor
namespace Rows

/-- THE TIED CARD OF 'retconlaw02.HashRank'. -/
def hashRankCard : Claim7 := { stood := { row := hashRankRow, standIns := [], harness := (true, "60dd4af195f5aed200b3b9e8dc485096e83a6e010b7828219dd2b6b5414e952a"), looks := false }, kinds := [], alts := [], laidByText := true, laidKinds := [.data, .data], laidTests := true, laidLooks := .later }
def HashRankCardSaid : Prop := Claim7.holds Tryd.pinned (.plain (OpenSpec.ofChange hashRankSpec)) hashRankCard

/-- THE SECOND FORM's CARD OF 'retconlaw02.HashRank'. -/
def hashRankUptoCard : Claim7 := { stood := { row := hashRankUptoRow, standIns := [], harness := (true, "60dd4af195f5aed200b3b9e8dc485096e83a6e010b7828219dd2b6b5414e952a"), looks := false }, kinds := [], alts := [], laidByText := true, laidKinds := [.data, .data], laidTests := true, laidLooks := .later }
def HashRankUptoCardSaid : Prop := Claim7.holds Tryd.pinned (.plain (OpenSpec.upto hashRankSpec)) hashRankUptoCard
end Rows
end Go.Proofs.YtgnpdnkmhjocjabDoor
