/-
  DERIVED. GIVEN WITH THE SEED: THE CARDS: each row of YtegapeplbincnaaDoorRows.lean that lists a variable, with what it lists TIED to the program's text (the seventh form; the later family's looks); each row that meets fmt, with fmt's text TOLD by the authors' own Lean function (tested against real Go, not proved from fmt's source: count such statements apart). THE CARD IS WHAT COUNTS. Prove the row's statement (the work); the ties are given (YtegapeplbincnaaDoorTie.lean); close each card by the builder's one call (the guide's Derived/Test/ToyasCard.lean, 'card_holds'). Laid BY PROGRAM, IN A SANDBOX (cutbox-door.mjs). By AI agents, Wed Nov 11 2026. No macro, syntax, notation, axiom, sorry.
-/
import Derived.Test.YtegapeplbincnaaDoorRows
import GoSem.ClaimSeven
namespace Go.Proofs.YtegapeplbincnaaDoor
namespace Rows

/-- THE TIED CARD OF 'chatelainelaw07.GridSets'. -/
def gridSetsCard : Claim7 := { stood := { row := gridSetsRow, standIns := [], harness := (true, "02f72ea41158296bcf60053f509544bf41a0d6727304166b2d26dedb7f4f19f6"), looks := false }, kinds := [], alts := [], laidByText := true, laidKinds := [.data], laidTests := true, laidLooks := .later }
def GridSetsCardSaid : Prop := Claim7.holds Tryd.pinned (.plain (OpenSpec.ofChange gridSetsSpec)) gridSetsCard

/-- THE TIED CARD OF 'chatelainelaw09.VotesCounts'. -/
def votesCountsCard : Claim7 := { stood := { row := votesCountsRow, standIns := [], harness := (true, "02f72ea41158296bcf60053f509544bf41a0d6727304166b2d26dedb7f4f19f6"), looks := false }, kinds := [], alts := [], laidByText := true, laidKinds := [.data], laidTests := true, laidLooks := .later }
def VotesCountsCardSaid : Prop := Claim7.holds Tryd.pinned (.plain (OpenSpec.ofChange votesCountsSpec)) votesCountsCard

/-- THE TIED CARD OF 'chatelainelaw09.VotesLeast'. -/
def votesLeastCard : Claim7 := { stood := { row := votesLeastRow, standIns := [], harness := (true, "02f72ea41158296bcf60053f509544bf41a0d6727304166b2d26dedb7f4f19f6"), looks := false }, kinds := [], alts := [], laidByText := true, laidKinds := [.data], laidTests := true, laidLooks := .later }
def VotesLeastCardSaid : Prop := Claim7.holds Tryd.pinned (.plain (OpenSpec.ofChange votesLeastSpec)) votesLeastCard

/-- THE TIED CARD OF 'chatelainelaw09.VotesClones'. -/
def votesClonesCard : Claim7 := { stood := { row := votesClonesRow, standIns := [], harness := (true, "02f72ea41158296bcf60053f509544bf41a0d6727304166b2d26dedb7f4f19f6"), looks := false }, kinds := [], alts := [], laidByText := true, laidKinds := [.data], laidTests := true, laidLooks := .later }
def VotesClonesCardSaid : Prop := Claim7.holds Tryd.pinned (.plain (OpenSpec.ofChange votesClonesSpec)) votesClonesCard

/-- THE SECOND FORM's CARD OF 'chatelainelaw07.GridSets'. -/
def gridSetsUptoCard : Claim7 := { stood := { row := gridSetsUptoRow, standIns := [], harness := (true, "02f72ea41158296bcf60053f509544bf41a0d6727304166b2d26dedb7f4f19f6"), looks := false }, kinds := [], alts := [], laidByText := true, laidKinds := [.data], laidTests := true, laidLooks := .later }
def GridSetsUptoCardSaid : Prop := Claim7.holds Tryd.pinned (.plain (OpenSpec.upto gridSetsSpec)) gridSetsUptoCard

/-- THE SECOND FORM's CARD OF 'chatelainelaw09.VotesCounts'. -/
def votesCountsUptoCard : Claim7 := { stood := { row := votesCountsUptoRow, standIns := [], harness := (true, "02f72ea41158296bcf60053f509544bf41a0d6727304166b2d26dedb7f4f19f6"), looks := false }, kinds := [], alts := [], laidByText := true, laidKinds := [.data], laidTests := true, laidLooks := .later }
def VotesCountsUptoCardSaid : Prop := Claim7.holds Tryd.pinned (.plain (OpenSpec.upto votesCountsSpec)) votesCountsUptoCard

/-- THE SECOND FORM's CARD OF 'chatelainelaw09.VotesLeast'. -/
def votesLeastUptoCard : Claim7 := { stood := { row := votesLeastUptoRow, standIns := [], harness := (true, "02f72ea41158296bcf60053f509544bf41a0d6727304166b2d26dedb7f4f19f6"), looks := false }, kinds := [], alts := [], laidByText := true, laidKinds := [.data], laidTests := true, laidLooks := .later }
def VotesLeastUptoCardSaid : Prop := Claim7.holds Tryd.pinned (.plain (OpenSpec.upto votesLeastSpec)) votesLeastUptoCard

/-- THE SECOND FORM's CARD OF 'chatelainelaw09.VotesClones'. -/
def votesClonesUptoCard : Claim7 := { stood := { row := votesClonesUptoRow, standIns := [], harness := (true, "02f72ea41158296bcf60053f509544bf41a0d6727304166b2d26dedb7f4f19f6"), looks := false }, kinds := [], alts := [], laidByText := true, laidKinds := [.data], laidTests := true, laidLooks := .later }
def VotesClonesUptoCardSaid : Prop := Claim7.holds Tryd.pinned (.plain (OpenSpec.upto votesClonesSpec)) votesClonesUptoCard
end Rows
end Go.Proofs.YtegapeplbincnaaDoor
