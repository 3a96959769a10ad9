/-
  DERIVED. GIVEN WITH THE SEED: THE CARDS: each row of YtlamgpeiolfffaaGreatDoorRows.lean that lists a variable, with what it lists TIED to the program's text (the seventh form; the later family's looks); each row that meets fmt, with fmt's text TOLD by the authors' own Lean function (tested against real Go, not proved from fmt's source: count such statements apart). THE CARD IS WHAT COUNTS. Prove the row's statement (the work); the ties are given (YtlamgpeiolfffaaGreatDoorTie.lean); close each card by the builder's one call (the guide's Derived/Test/ToyasCard.lean, 'card_holds'). Laid BY PROGRAM, IN A SANDBOX (cutbox-door.mjs). By AI agents, Wed Nov 11 2026. No macro, syntax, notation, axiom, sorry.
-/
import Derived.Test.YtlamgpeiolfffaaGreatDoorRows
import GoSem.ClaimSeven
namespace Go.Proofs.YtlamgpeiolfffaaGreatDoor
namespace Rows

/-- THE TIED CARD OF 'quotaledgerlaw.Counted'. -/
def countedCard : Claim7 := { stood := { row := countedRow, standIns := [], harness := (true, "07f7b5f881039daa5dc7c759b0b0c10a5d36db1ca6d18ed0ae62b7fe82f7e1d7"), looks := true }, kinds := [], alts := [], laidByText := true, laidKinds := [.handle], laidTests := true, laidLooks := .later }
def CountedCardSaid : Prop := Claim7.holds Tryz.pinned (.plain (OpenSpec.ofChange countedSpec)) countedCard

/-- THE TIED CARD OF 'quotaledgerkeep.Split'. -/
def splitCard : Claim7 := { stood := { row := splitRow, standIns := [], harness := (true, "07f7b5f881039daa5dc7c759b0b0c10a5d36db1ca6d18ed0ae62b7fe82f7e1d7"), looks := true }, kinds := [], alts := [], laidByText := true, laidKinds := [.handle], laidTests := true, laidLooks := .later }
def SplitCardSaid : Prop := Claim7.holds Tryz.pinned (.plain (OpenSpec.ofChange splitSpec)) splitCard

/-- THE TIED CARD OF 'quotaledgerkeep.Drawn'. -/
def drawnCard : Claim7 := { stood := { row := drawnRow, standIns := [], harness := (true, "07f7b5f881039daa5dc7c759b0b0c10a5d36db1ca6d18ed0ae62b7fe82f7e1d7"), looks := true }, kinds := [], alts := [], laidByText := true, laidKinds := [.handle], laidTests := true, laidLooks := .later }
def DrawnCardSaid : Prop := Claim7.holds Tryz.pinned (.plain (OpenSpec.ofChange drawnSpec)) drawnCard

/-- THE SECOND FORM's CARD OF 'quotaledgerlaw.Counted'. -/
def countedUptoCard : Claim7 := { stood := { row := countedUptoRow, standIns := [], harness := (true, "07f7b5f881039daa5dc7c759b0b0c10a5d36db1ca6d18ed0ae62b7fe82f7e1d7"), looks := true }, kinds := [], alts := [], laidByText := true, laidKinds := [.handle], laidTests := true, laidLooks := .later }
def CountedUptoCardSaid : Prop := Claim7.holds Tryz.pinned (.plain (OpenSpec.upto countedSpec)) countedUptoCard

/-- THE SECOND FORM's CARD OF 'quotaledgerkeep.Split'. -/
def splitUptoCard : Claim7 := { stood := { row := splitUptoRow, standIns := [], harness := (true, "07f7b5f881039daa5dc7c759b0b0c10a5d36db1ca6d18ed0ae62b7fe82f7e1d7"), looks := true }, kinds := [], alts := [], laidByText := true, laidKinds := [.handle], laidTests := true, laidLooks := .later }
def SplitUptoCardSaid : Prop := Claim7.holds Tryz.pinned (.plain (OpenSpec.upto splitSpec)) splitUptoCard

/-- THE SECOND FORM's CARD OF 'quotaledgerkeep.Drawn'. -/
def drawnUptoCard : Claim7 := { stood := { row := drawnUptoRow, standIns := [], harness := (true, "07f7b5f881039daa5dc7c759b0b0c10a5d36db1ca6d18ed0ae62b7fe82f7e1d7"), looks := true }, kinds := [], alts := [], laidByText := true, laidKinds := [.handle], laidTests := true, laidLooks := .later }
def DrawnUptoCardSaid : Prop := Claim7.holds Tryz.pinned (.plain (OpenSpec.upto drawnSpec)) drawnUptoCard
end Rows
end Go.Proofs.YtlamgpeiolfffaaGreatDoor
