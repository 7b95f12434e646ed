/-
  DERIVED. GIVEN WITH THE SEED: THE CARDS: each row of YtfgkgpkaohkehaaGreatDoorRows.lean that lists a variable, with what it lists TIED to the program's text (the seventh form; the later family's looks); each row that meets fmt, with fmt's text TOLD by the authors' own Lean function (tested against real Go, not proved from fmt's source: count such statements apart). THE CARD IS WHAT COUNTS. Prove the row's statement (the work); the ties are given (YtfgkgpkaohkehaaGreatDoorTie.lean); close each card by the builder's one call (the guide's Derived/Test/ToyasCard.lean, 'card_holds'). Laid BY PROGRAM, IN A SANDBOX (cutbox-door.mjs). By AI agents, Wed Nov 11 2026. No macro, syntax, notation, axiom, sorry.
-/
import Derived.Test.YtfgkgpkaohkehaaGreatDoorRows
import GoSem.ClaimSeven
namespace Go.Proofs.YtfgkgpkaohkehaaGreatDoor
namespace Rows

/-- THE TIED CARD OF 'chatelainetop.ChatelaineCounts'. -/
def chatelaineCountsCard : Claim7 := { stood := { row := chatelaineCountsRow, standIns := [], harness := (true, "41ae72f4e34fc0781b90984e74ae5c7dd0564b68598fc462740784723b63b77a"), looks := false }, kinds := [], alts := [], laidByText := true, laidKinds := [.data], laidTests := true, laidLooks := .later }
def ChatelaineCountsCardSaid : Prop := Claim7.holds Tryz.pinned (.plain (OpenSpec.ofChange chatelaineCountsSpec)) chatelaineCountsCard

/-- THE SECOND FORM's CARD OF 'chatelainetop.ChatelaineCounts'. -/
def chatelaineCountsUptoCard : Claim7 := { stood := { row := chatelaineCountsUptoRow, standIns := [], harness := (true, "41ae72f4e34fc0781b90984e74ae5c7dd0564b68598fc462740784723b63b77a"), looks := false }, kinds := [], alts := [], laidByText := true, laidKinds := [.data], laidTests := true, laidLooks := .later }
def ChatelaineCountsUptoCardSaid : Prop := Claim7.holds Tryz.pinned (.plain (OpenSpec.upto chatelaineCountsSpec)) chatelaineCountsUptoCard
end Rows
end Go.Proofs.YtfgkgpkaohkehaaGreatDoor
