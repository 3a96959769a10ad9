/-
  DERIVED. GIVEN WITH THE SEED: THE CARDS: each row of YtlcnkcgmjnfbiaaGreatDoorRows.lean that lists a variable, with what it lists TIED to the program's text (the seventh form; the later family's looks); each row that meets fmt, with fmt's text TOLD by the authors' own Lean function (tested against real Go, not proved from fmt's source: count such statements apart). THE CARD IS WHAT COUNTS. Prove the row's statement (the work); the ties are given (YtlcnkcgmjnfbiaaGreatDoorTie.lean); close each card by the builder's one call (the guide's Derived/Test/ToyasCard.lean, 'card_holds'). Laid BY PROGRAM, IN A SANDBOX (cutbox-door.mjs). By AI agents, Wed Nov 11 2026. No macro, syntax, notation, axiom, sorry.
-/
import Derived.Test.YtlcnkcgmjnfbiaaGreatDoorRows
import GoSem.ClaimSeven
namespace Go.Proofs.YtlcnkcgmjnfbiaaGreatDoor
namespace Rows

/-- THE TIED CARD OF 'quotaledgerlaw.Crowded'. -/
def crowdedCard : Claim7 := { stood := { row := crowdedRow, standIns := [], harness := (true, "16687f4b4b4c600cd8ff3e71a48e1c6abc4c6e30317ebaa1eb02691c81f09b31"), looks := true }, kinds := [], alts := [], goes := true, laidByText := true, laidKinds := [.data, .data, .data, .handle], laidTests := true, laidLooks := .later }
def CrowdedCardSaid : Prop := Claim7.holds Tryz.pinned (.plain (OpenSpec.ofChange crowdedSpec)) crowdedCard

/-- THE TIED CARD OF 'quotaledgerlaw.All'. -/
def allCard : Claim7 := { stood := { row := allRow, standIns := [], harness := (true, "16687f4b4b4c600cd8ff3e71a48e1c6abc4c6e30317ebaa1eb02691c81f09b31"), looks := true }, kinds := [], alts := [], goes := true, laidByText := true, laidKinds := [.data, .data, .data, .handle], laidTests := true, laidLooks := .later }
def AllCardSaid : Prop := Claim7.holds Tryz.pinned (.plain (OpenSpec.ofChange allSpec)) allCard

/-- THE TIED CARD OF 'quotaledgerkeep.Anew'. -/
def anewCard : Claim7 := { stood := { row := anewRow, standIns := [], harness := (true, "16687f4b4b4c600cd8ff3e71a48e1c6abc4c6e30317ebaa1eb02691c81f09b31"), looks := true }, kinds := [], alts := [], goes := true, laidByText := true, laidKinds := [.data, .data, .data, .handle], laidTests := true, laidLooks := .later }
def AnewCardSaid : Prop := Claim7.holds Tryz.pinned (.plain (OpenSpec.ofChange anewSpec)) anewCard

/-- THE TIED CARD OF 'quotaledgerkeep.Rewritten'. -/
def rewrittenCard : Claim7 := { stood := { row := rewrittenRow, standIns := [], harness := (true, "16687f4b4b4c600cd8ff3e71a48e1c6abc4c6e30317ebaa1eb02691c81f09b31"), looks := true }, kinds := [], alts := [], goes := true, laidByText := true, laidKinds := [.data, .data, .data, .handle], laidTests := true, laidLooks := .later }
def RewrittenCardSaid : Prop := Claim7.holds Tryz.pinned (.plain (OpenSpec.ofChange rewrittenSpec)) rewrittenCard

/-- THE SECOND FORM's CARD OF 'quotaledgerlaw.Crowded'. -/
def crowdedUptoCard : Claim7 := { stood := { row := crowdedUptoRow, standIns := [], harness := (true, "16687f4b4b4c600cd8ff3e71a48e1c6abc4c6e30317ebaa1eb02691c81f09b31"), looks := true }, kinds := [], alts := [], goes := true, laidByText := true, laidKinds := [.data, .data, .data, .handle], laidTests := true, laidLooks := .later }
def CrowdedUptoCardSaid : Prop := Claim7.holds Tryz.pinned (.plain (OpenSpec.upto crowdedSpec)) crowdedUptoCard

/-- THE SECOND FORM's CARD OF 'quotaledgerlaw.All'. -/
def allUptoCard : Claim7 := { stood := { row := allUptoRow, standIns := [], harness := (true, "16687f4b4b4c600cd8ff3e71a48e1c6abc4c6e30317ebaa1eb02691c81f09b31"), looks := true }, kinds := [], alts := [], goes := true, laidByText := true, laidKinds := [.data, .data, .data, .handle], laidTests := true, laidLooks := .later }
def AllUptoCardSaid : Prop := Claim7.holds Tryz.pinned (.plain (OpenSpec.upto allSpec)) allUptoCard

/-- THE SECOND FORM's CARD OF 'quotaledgerkeep.Anew'. -/
def anewUptoCard : Claim7 := { stood := { row := anewUptoRow, standIns := [], harness := (true, "16687f4b4b4c600cd8ff3e71a48e1c6abc4c6e30317ebaa1eb02691c81f09b31"), looks := true }, kinds := [], alts := [], goes := true, laidByText := true, laidKinds := [.data, .data, .data, .handle], laidTests := true, laidLooks := .later }
def AnewUptoCardSaid : Prop := Claim7.holds Tryz.pinned (.plain (OpenSpec.upto anewSpec)) anewUptoCard

/-- THE SECOND FORM's CARD OF 'quotaledgerkeep.Rewritten'. -/
def rewrittenUptoCard : Claim7 := { stood := { row := rewrittenUptoRow, standIns := [], harness := (true, "16687f4b4b4c600cd8ff3e71a48e1c6abc4c6e30317ebaa1eb02691c81f09b31"), looks := true }, kinds := [], alts := [], goes := true, laidByText := true, laidKinds := [.data, .data, .data, .handle], laidTests := true, laidLooks := .later }
def RewrittenUptoCardSaid : Prop := Claim7.holds Tryz.pinned (.plain (OpenSpec.upto rewrittenSpec)) rewrittenUptoCard
end Rows
end Go.Proofs.YtlcnkcgmjnfbiaaGreatDoor
