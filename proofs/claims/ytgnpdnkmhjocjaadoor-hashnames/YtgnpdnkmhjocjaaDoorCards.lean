/-
  DERIVED. GIVEN WITH THE SEED: THE CARDS: each row of YtgnpdnkmhjocjaaDoorRows.lean that lists a variable, with what it lists TIED to the program's text (the seventh form; the later family's looks); each row that meets fmt, with fmt's text TOLD by the authors' own Lean function (tested against real Go, not proved from fmt's source: count such statements apart). THE CARD IS WHAT COUNTS. Prove the row's statement (the work); the ties are given (YtgnpdnkmhjocjaaDoorTie.lean); close each card by the builder's one call (the guide's Derived/Test/ToyasCard.lean, 'card_holds'). Laid BY PROGRAM, IN A SANDBOX (cutbox-door.mjs). By AI agents, Wed Nov 11 2026. No macro, syntax, notation, axiom, sorry.
-/
import Derived.Test.YtgnpdnkmhjocjaaDoorRows
import GoSem.ClaimSeven
namespace Go.Proofs.YtgnpdnkmhjocjaaDoor
namespace Rows

/-- THE TIED CARD OF 'retconlaw02.HashNames'. -/
def hashNamesCard : Claim7 := { stood := { row := hashNamesRow, standIns := [], harness := (true, "86164d2b248145813b863a26a4698257de4d3a84dcd0e2a97a4bbec7f17d0dbd"), looks := false }, kinds := [], alts := [], laidByText := true, laidKinds := [.data, .data], laidTests := true, laidLooks := .later }
def HashNamesCardSaid : Prop := Claim7.holds Tryd.pinned (.plain (OpenSpec.ofChange hashNamesSpec)) hashNamesCard

/-- THE TIED CARD OF 'retconlaw02.HashSpells'. -/
def hashSpellsCard : Claim7 := { stood := { row := hashSpellsRow, standIns := [], harness := (true, "86164d2b248145813b863a26a4698257de4d3a84dcd0e2a97a4bbec7f17d0dbd"), looks := false }, kinds := [], alts := [], laidByText := true, laidKinds := [.data, .data], laidTests := true, laidLooks := .later }
def HashSpellsCardSaid : Prop := Claim7.holds Tryd.pinned (.plain (OpenSpec.ofChange hashSpellsSpec)) hashSpellsCard

/-- THE TIED CARD OF 'retconlaw02.HashNobody'. -/
def hashNobodyCard : Claim7 := { stood := { row := hashNobodyRow, standIns := [], harness := (true, "86164d2b248145813b863a26a4698257de4d3a84dcd0e2a97a4bbec7f17d0dbd"), looks := false }, kinds := [], alts := [], laidByText := true, laidKinds := [.data, .data], laidTests := true, laidLooks := .later }
def HashNobodyCardSaid : Prop := Claim7.holds Tryd.pinned (.plain (OpenSpec.ofChange hashNobodySpec)) hashNobodyCard

/-- THE TIED CARD OF 'retconlaw02.HashKnown'. -/
def hashKnownCard : Claim7 := { stood := { row := hashKnownRow, standIns := [], harness := (true, "86164d2b248145813b863a26a4698257de4d3a84dcd0e2a97a4bbec7f17d0dbd"), looks := false }, kinds := [], alts := [], laidByText := true, laidKinds := [.data, .data], laidTests := true, laidLooks := .later }
def HashKnownCardSaid : Prop := Claim7.holds Tryd.pinned (.plain (OpenSpec.ofChange hashKnownSpec)) hashKnownCard

/-- THE TIED CARD OF 'retconlaw02.HashBeside'. -/
def hashBesideCard : Claim7 := { stood := { row := hashBesideRow, standIns := [], harness := (true, "86164d2b248145813b863a26a4698257de4d3a84dcd0e2a97a4bbec7f17d0dbd"), looks := false }, kinds := [], alts := [], laidByText := true, laidKinds := [.data, .data], laidTests := true, laidLooks := .later }
def HashBesideCardSaid : Prop := Claim7.holds Tryd.pinned (.plain (OpenSpec.ofChange hashBesideSpec)) hashBesideCard

/-- THE TIED CARD OF 'retconlaw02.HashDigit'. -/
def hashDigitCard : Claim7 := { stood := { row := hashDigitRow, standIns := [], harness := (true, "86164d2b248145813b863a26a4698257de4d3a84dcd0e2a97a4bbec7f17d0dbd"), looks := false }, kinds := [], alts := [], laidByText := true, laidKinds := [.data, .data], laidTests := true, laidLooks := .later }
def HashDigitCardSaid : Prop := Claim7.holds Tryd.pinned (.plain (OpenSpec.ofChange hashDigitSpec)) hashDigitCard

/-- THE SECOND FORM's CARD OF 'retconlaw02.HashNames'. -/
def hashNamesUptoCard : Claim7 := { stood := { row := hashNamesUptoRow, standIns := [], harness := (true, "86164d2b248145813b863a26a4698257de4d3a84dcd0e2a97a4bbec7f17d0dbd"), looks := false }, kinds := [], alts := [], laidByText := true, laidKinds := [.data, .data], laidTests := true, laidLooks := .later }
def HashNamesUptoCardSaid : Prop := Claim7.holds Tryd.pinned (.plain (OpenSpec.upto hashNamesSpec)) hashNamesUptoCard

/-- THE SECOND FORM's CARD OF 'retconlaw02.HashSpells'. -/
def hashSpellsUptoCard : Claim7 := { stood := { row := hashSpellsUptoRow, standIns := [], harness := (true, "86164d2b248145813b863a26a4698257de4d3a84dcd0e2a97a4bbec7f17d0dbd"), looks := false }, kinds := [], alts := [], laidByText := true, laidKinds := [.data, .data], laidTests := true, laidLooks := .later }
def HashSpellsUptoCardSaid : Prop := Claim7.holds Tryd.pinned (.plain (OpenSpec.upto hashSpellsSpec)) hashSpellsUptoCard

/-- THE SECOND FORM's CARD OF 'retconlaw02.HashNobody'. -/
def hashNobodyUptoCard : Claim7 := { stood := { row := hashNobodyUptoRow, standIns := [], harness := (true, "86164d2b248145813b863a26a4698257de4d3a84dcd0e2a97a4bbec7f17d0dbd"), looks := false }, kinds := [], alts := [], laidByText := true, laidKinds := [.data, .data], laidTests := true, laidLooks := .later }
def HashNobodyUptoCardSaid : Prop := Claim7.holds Tryd.pinned (.plain (OpenSpec.upto hashNobodySpec)) hashNobodyUptoCard

/-- THE SECOND FORM's CARD OF 'retconlaw02.HashKnown'. -/
def hashKnownUptoCard : Claim7 := { stood := { row := hashKnownUptoRow, standIns := [], harness := (true, "86164d2b248145813b863a26a4698257de4d3a84dcd0e2a97a4bbec7f17d0dbd"), looks := false }, kinds := [], alts := [], laidByText := true, laidKinds := [.data, .data], laidTests := true, laidLooks := .later }
def HashKnownUptoCardSaid : Prop := Claim7.holds Tryd.pinned (.plain (OpenSpec.upto hashKnownSpec)) hashKnownUptoCard

/-- THE SECOND FORM's CARD OF 'retconlaw02.HashBeside'. -/
def hashBesideUptoCard : Claim7 := { stood := { row := hashBesideUptoRow, standIns := [], harness := (true, "86164d2b248145813b863a26a4698257de4d3a84dcd0e2a97a4bbec7f17d0dbd"), looks := false }, kinds := [], alts := [], laidByText := true, laidKinds := [.data, .data], laidTests := true, laidLooks := .later }
def HashBesideUptoCardSaid : Prop := Claim7.holds Tryd.pinned (.plain (OpenSpec.upto hashBesideSpec)) hashBesideUptoCard

/-- THE SECOND FORM's CARD OF 'retconlaw02.HashDigit'. -/
def hashDigitUptoCard : Claim7 := { stood := { row := hashDigitUptoRow, standIns := [], harness := (true, "86164d2b248145813b863a26a4698257de4d3a84dcd0e2a97a4bbec7f17d0dbd"), looks := false }, kinds := [], alts := [], laidByText := true, laidKinds := [.data, .data], laidTests := true, laidLooks := .later }
def HashDigitUptoCardSaid : Prop := Claim7.holds Tryd.pinned (.plain (OpenSpec.upto hashDigitSpec)) hashDigitUptoCard
end Rows
end Go.Proofs.YtgnpdnkmhjocjaaDoor
