/-
  DERIVED. GIVEN WITH THE SEED: THE CARDS: each row of YtgbicckclepplaaDoorRows.lean that lists a variable, with what it lists TIED to the program's text (the seventh form; the later family's looks); each row that meets fmt, with fmt's text TOLD by the authors' own Lean function (tested against real Go, not proved from fmt's source: count such statements apart). THE CARD IS WHAT COUNTS. Prove the row's statement (the work); the ties are given (YtgbicckclepplaaDoorTie.lean); close each card by the builder's one call (the guide's Derived/Test/ToyasCard.lean, 'card_holds'). Laid BY PROGRAM, IN A SANDBOX (cutbox-door.mjs). By AI agents, Wed Nov 11 2026. No macro, syntax, notation, axiom, sorry.
-/
import Derived.Test.YtgbicckclepplaaDoorRows
import GoSem.ClaimSeven
namespace Go.Proofs.YtgbicckclepplaaDoor
namespace Rows

/-- THE TIED CARD OF 'chatelainelaw03.FaultTells'. -/
def faultTellsCard : Claim7 := { stood := { row := faultTellsRow, standIns := [], harness := (true, "ba11fc7aeac303e8e743e88efec2e61e5b4a83be0149ea8faadf95cc7ed66cbd"), looks := true }, kinds := [], alts := [], laidByText := true, laidKinds := [.data, .data, .data, .handle], laidTests := true, laidLooks := .later }
def FaultTellsCardSaid : Prop := Claim7.holds Tryd.pinned (.plain (OpenSpec.ofChange faultTellsSpec)) faultTellsCard

/-- THE TIED CARD OF 'chatelainelaw03.FaultWraps'. -/
def faultWrapsCard : Claim7 := { stood := { row := faultWrapsRow, standIns := [], harness := (true, "ba11fc7aeac303e8e743e88efec2e61e5b4a83be0149ea8faadf95cc7ed66cbd"), looks := true }, kinds := [], alts := [], laidByText := true, laidKinds := [.data, .data, .data, .handle], laidTests := true, laidLooks := .later }
def FaultWrapsCardSaid : Prop := Claim7.holds Tryd.pinned (.plain (OpenSpec.ofChange faultWrapsSpec)) faultWrapsCard

/-- THE TIED CARD OF 'chatelainelaw03.FaultIs'. -/
def faultIsCard : Claim7 := { stood := { row := faultIsRow, standIns := [], harness := (true, "ba11fc7aeac303e8e743e88efec2e61e5b4a83be0149ea8faadf95cc7ed66cbd"), looks := true }, kinds := [], alts := [], laidByText := true, laidKinds := [.data, .data, .data, .handle], laidTests := true, laidLooks := .later }
def FaultIsCardSaid : Prop := Claim7.holds Tryd.pinned (.plain (OpenSpec.ofChange faultIsSpec)) faultIsCard

/-- THE TIED CARD OF 'chatelainelaw03.FaultNews'. -/
def faultNewsCard : Claim7 := { stood := { row := faultNewsRow, standIns := [], harness := (true, "ba11fc7aeac303e8e743e88efec2e61e5b4a83be0149ea8faadf95cc7ed66cbd"), looks := true }, kinds := [], alts := [], laidByText := true, laidKinds := [.data, .data, .data, .handle], laidTests := true, laidLooks := .later }
def FaultNewsCardSaid : Prop := Claim7.holds Tryd.pinned (.plain (OpenSpec.ofChange faultNewsSpec)) faultNewsCard

/-- THE TIED CARD OF 'chatelainelaw03.FaultMarks'. -/
def faultMarksCard : Claim7 := { stood := { row := faultMarksRow, standIns := [], harness := (true, "ba11fc7aeac303e8e743e88efec2e61e5b4a83be0149ea8faadf95cc7ed66cbd"), looks := true }, kinds := [], alts := [], laidByText := true, laidKinds := [.data, .data, .data, .handle], laidTests := true, laidLooks := .later }
def FaultMarksCardSaid : Prop := Claim7.holds Tryd.pinned (.plain (OpenSpec.ofChange faultMarksSpec)) faultMarksCard

/-- THE TIED CARD OF 'chatelainelaw03.FaultUnwraps'. -/
def faultUnwrapsCard : Claim7 := { stood := { row := faultUnwrapsRow, standIns := [], harness := (true, "ba11fc7aeac303e8e743e88efec2e61e5b4a83be0149ea8faadf95cc7ed66cbd"), looks := true }, kinds := [], alts := [], laidByText := true, laidKinds := [.data, .data, .data, .handle], laidTests := true, laidLooks := .later }
def FaultUnwrapsCardSaid : Prop := Claim7.holds Tryd.pinned (.plain (OpenSpec.ofChange faultUnwrapsSpec)) faultUnwrapsCard

/-- THE TIED CARD OF 'chatelainetop.ChatelaineWrapped'. -/
def chatelaineWrappedCard : Claim7 := { stood := { row := chatelaineWrappedRow, standIns := [], harness := (true, "ba11fc7aeac303e8e743e88efec2e61e5b4a83be0149ea8faadf95cc7ed66cbd"), looks := true }, kinds := [], alts := [], laidByText := true, laidKinds := [.handle], laidTests := true, laidLooks := .later }
def ChatelaineWrappedCardSaid : Prop := Claim7.holds Tryd.pinned (.plain (OpenSpec.ofChange chatelaineWrappedSpec)) chatelaineWrappedCard

/-- THE SECOND FORM's CARD OF 'chatelainelaw03.FaultTells'. -/
def faultTellsUptoCard : Claim7 := { stood := { row := faultTellsUptoRow, standIns := [], harness := (true, "ba11fc7aeac303e8e743e88efec2e61e5b4a83be0149ea8faadf95cc7ed66cbd"), looks := true }, kinds := [], alts := [], laidByText := true, laidKinds := [.data, .data, .data, .handle], laidTests := true, laidLooks := .later }
def FaultTellsUptoCardSaid : Prop := Claim7.holds Tryd.pinned (.plain (OpenSpec.upto faultTellsSpec)) faultTellsUptoCard

/-- THE SECOND FORM's CARD OF 'chatelainelaw03.FaultWraps'. -/
def faultWrapsUptoCard : Claim7 := { stood := { row := faultWrapsUptoRow, standIns := [], harness := (true, "ba11fc7aeac303e8e743e88efec2e61e5b4a83be0149ea8faadf95cc7ed66cbd"), looks := true }, kinds := [], alts := [], laidByText := true, laidKinds := [.data, .data, .data, .handle], laidTests := true, laidLooks := .later }
def FaultWrapsUptoCardSaid : Prop := Claim7.holds Tryd.pinned (.plain (OpenSpec.upto faultWrapsSpec)) faultWrapsUptoCard

/-- THE SECOND FORM's CARD OF 'chatelainelaw03.FaultIs'. -/
def faultIsUptoCard : Claim7 := { stood := { row := faultIsUptoRow, standIns := [], harness := (true, "ba11fc7aeac303e8e743e88efec2e61e5b4a83be0149ea8faadf95cc7ed66cbd"), looks := true }, kinds := [], alts := [], laidByText := true, laidKinds := [.data, .data, .data, .handle], laidTests := true, laidLooks := .later }
def FaultIsUptoCardSaid : Prop := Claim7.holds Tryd.pinned (.plain (OpenSpec.upto faultIsSpec)) faultIsUptoCard

/-- THE SECOND FORM's CARD OF 'chatelainelaw03.FaultNews'. -/
def faultNewsUptoCard : Claim7 := { stood := { row := faultNewsUptoRow, standIns := [], harness := (true, "ba11fc7aeac303e8e743e88efec2e61e5b4a83be0149ea8faadf95cc7ed66cbd"), looks := true }, kinds := [], alts := [], laidByText := true, laidKinds := [.data, .data, .data, .handle], laidTests := true, laidLooks := .later }
def FaultNewsUptoCardSaid : Prop := Claim7.holds Tryd.pinned (.plain (OpenSpec.upto faultNewsSpec)) faultNewsUptoCard

/-- THE SECOND FORM's CARD OF 'chatelainelaw03.FaultMarks'. -/
def faultMarksUptoCard : Claim7 := { stood := { row := faultMarksUptoRow, standIns := [], harness := (true, "ba11fc7aeac303e8e743e88efec2e61e5b4a83be0149ea8faadf95cc7ed66cbd"), looks := true }, kinds := [], alts := [], laidByText := true, laidKinds := [.data, .data, .data, .handle], laidTests := true, laidLooks := .later }
def FaultMarksUptoCardSaid : Prop := Claim7.holds Tryd.pinned (.plain (OpenSpec.upto faultMarksSpec)) faultMarksUptoCard

/-- THE SECOND FORM's CARD OF 'chatelainelaw03.FaultUnwraps'. -/
def faultUnwrapsUptoCard : Claim7 := { stood := { row := faultUnwrapsUptoRow, standIns := [], harness := (true, "ba11fc7aeac303e8e743e88efec2e61e5b4a83be0149ea8faadf95cc7ed66cbd"), looks := true }, kinds := [], alts := [], laidByText := true, laidKinds := [.data, .data, .data, .handle], laidTests := true, laidLooks := .later }
def FaultUnwrapsUptoCardSaid : Prop := Claim7.holds Tryd.pinned (.plain (OpenSpec.upto faultUnwrapsSpec)) faultUnwrapsUptoCard

/-- THE SECOND FORM's CARD OF 'chatelainetop.ChatelaineWrapped'. -/
def chatelaineWrappedUptoCard : Claim7 := { stood := { row := chatelaineWrappedUptoRow, standIns := [], harness := (true, "ba11fc7aeac303e8e743e88efec2e61e5b4a83be0149ea8faadf95cc7ed66cbd"), looks := true }, kinds := [], alts := [], laidByText := true, laidKinds := [.handle], laidTests := true, laidLooks := .later }
def ChatelaineWrappedUptoCardSaid : Prop := Claim7.holds Tryd.pinned (.plain (OpenSpec.upto chatelaineWrappedSpec)) chatelaineWrappedUptoCard
end Rows
end Go.Proofs.YtgbicckclepplaaDoor
