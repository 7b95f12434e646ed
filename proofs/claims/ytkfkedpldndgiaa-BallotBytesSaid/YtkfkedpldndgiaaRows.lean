/-
  No cell of these rows narrows 'for every input' (looked for: loops, veiled, ifaces, maps, wideKeys, modest, calm, conditions, laid).
  DERIVED. THE GIVEN ROWS OF THIS SEAT. 11 by the template 'for every input the law returns true; each argument reads behind the call as it read before'; 0 by the template 'total and deterministic' (their statements: YtkfkedpldndgiaaTotals.lean).
  GIVEN WITH THE SEED: the statements are not yours to turn. If you find one false, say at which input.
  Laid BY PROGRAM, IN A SANDBOX (cutbox-rows.mjs): the forced cells as the released guide's own fill.sh prints them over the translation 1a81b81cdc722122… (all of the seat's roots in one cut). By AI agents, Wed Nov 11 2026. No macro, syntax, notation, axiom, sorry.
-/
import Derived.Test.YtkfkedpldndgiaaChecked
import GoSem.Claim
import GoSem.ClaimJoined
import GoSem.ClaimMapViews
import Derived.JoinedTies
import Derived.KernelRfl
namespace Go.Proofs.Ytkfkedpldndgiaa
/- THE CELL 'sum', in the pinned program and in every row, IS THE sha256 OF THE DUMP (.gsa) THAT YtkfkedpldndgiaaProg.lean LOADS. Nothing in Lean hashes anything: it is a label: what it is worth is what the hold of that sum in a sandbox is worth. -/
noncomputable def Try.pinned : Pinned := { name := "ytkfkedpldndgiaa", sum := "1a81b81cdc7221227263b7518b74ca82c808f911ffd401ffc124728330eb6e8b", checked := Try.checked }
namespace Rows
def none {H : Type} : Left H := { results := [], args := [] }

/-- 'chatelainelaw01.CodeReads': WHATEVER THE INPUT: true; the input reads as it did. -/
def codeReadsSpec : ChangeSpec := { name := "codeReads", fn := fun _ => fun
  | [d1, d2] => { results := [.lit (.bool true)], args := [d1, d2] }
  | _ => none }
def codeReadsRow : OpenClaim := { program := "ytkfkedpldndgiaa", sum := "1a81b81cdc7221227263b7518b74ca82c808f911ffd401ffc124728330eb6e8b", func := "chatelaine/chatelainelaw01.CodeReads", spec := "codeReads", apart := false }
def CodeReadsSaid : Prop := codeReadsRow.holds Try.pinned (OpenSpec.ofChange codeReadsSpec)

/-- ITS FALSE NEIGHBOUR: 'it returns false'. Refute it at one input. -/
def codeReadsWrong : ChangeSpec := { name := "codeReads", fn := fun _ => fun
  | [d1, d2] => { results := [.lit (.bool false)], args := [d1, d2] }
  | _ => none }
def CodeReadsWrongFalsely : Prop := codeReadsRow.holds Try.pinned (OpenSpec.ofChange codeReadsWrong)

/-- 'chatelainelaw07.GridChecks': WHATEVER THE INPUT: true; the input reads as it did. -/
def gridChecksSpec : ChangeSpec := { name := "gridChecks", fn := fun _ => fun
  | [d] => { results := [.lit (.bool true)], args := [d] }
  | _ => none }
def gridChecksRow : OpenClaim := { program := "ytkfkedpldndgiaa", sum := "1a81b81cdc7221227263b7518b74ca82c808f911ffd401ffc124728330eb6e8b", func := "chatelaine/chatelainelaw07.GridChecks", spec := "gridChecks", apart := false }
def GridChecksSaid : Prop := gridChecksRow.holds Try.pinned (OpenSpec.ofChange gridChecksSpec)

/-- ITS FALSE NEIGHBOUR: 'it returns false'. Refute it at one input. -/
def gridChecksWrong : ChangeSpec := { name := "gridChecks", fn := fun _ => fun
  | [d] => { results := [.lit (.bool false)], args := [d] }
  | _ => none }
def GridChecksWrongFalsely : Prop := gridChecksRow.holds Try.pinned (OpenSpec.ofChange gridChecksWrong)

/-- 'chatelainelaw07.GridShapes': WHATEVER THE INPUT: true; the input reads as it did. -/
def gridShapesSpec : ChangeSpec := { name := "gridShapes", fn := fun _ => fun
  | [d1, d2] => { results := [.lit (.bool true)], args := [d1, d2] }
  | _ => none }
def gridShapesRow : OpenClaim := { program := "ytkfkedpldndgiaa", sum := "1a81b81cdc7221227263b7518b74ca82c808f911ffd401ffc124728330eb6e8b", func := "chatelaine/chatelainelaw07.GridShapes", spec := "gridShapes", apart := false }
def GridShapesSaid : Prop := gridShapesRow.holds Try.pinned (OpenSpec.ofChange gridShapesSpec)

/-- ITS FALSE NEIGHBOUR: 'it returns false'. Refute it at one input. -/
def gridShapesWrong : ChangeSpec := { name := "gridShapes", fn := fun _ => fun
  | [d1, d2] => { results := [.lit (.bool false)], args := [d1, d2] }
  | _ => none }
def GridShapesWrongFalsely : Prop := gridShapesRow.holds Try.pinned (OpenSpec.ofChange gridShapesWrong)

/-- 'chatelainelaw07.GridQuorums': WHATEVER THE INPUT: true; the input reads as it did. -/
def gridQuorumsSpec : ChangeSpec := { name := "gridQuorums", fn := fun _ => fun
  | [d1, d2, d3] => { results := [.lit (.bool true)], args := [d1, d2, d3] }
  | _ => none }
def gridQuorumsRow : OpenClaim := { program := "ytkfkedpldndgiaa", sum := "1a81b81cdc7221227263b7518b74ca82c808f911ffd401ffc124728330eb6e8b", func := "chatelaine/chatelainelaw07.GridQuorums", spec := "gridQuorums", apart := false }
def GridQuorumsSaid : Prop := gridQuorumsRow.holds Try.pinned (OpenSpec.ofChange gridQuorumsSpec)

/-- ITS FALSE NEIGHBOUR: 'it returns false'. Refute it at one input. -/
def gridQuorumsWrong : ChangeSpec := { name := "gridQuorums", fn := fun _ => fun
  | [d1, d2, d3] => { results := [.lit (.bool false)], args := [d1, d2, d3] }
  | _ => none }
def GridQuorumsWrongFalsely : Prop := gridQuorumsRow.holds Try.pinned (OpenSpec.ofChange gridQuorumsWrong)

/-- 'chatelainelaw07.GridMeets': WHATEVER THE INPUT: true; the input reads as it did. -/
def gridMeetsSpec : ChangeSpec := { name := "gridMeets", fn := fun _ => fun
  | [d1, d2, d3] => { results := [.lit (.bool true)], args := [d1, d2, d3] }
  | _ => none }
def gridMeetsRow : OpenClaim := { program := "ytkfkedpldndgiaa", sum := "1a81b81cdc7221227263b7518b74ca82c808f911ffd401ffc124728330eb6e8b", func := "chatelaine/chatelainelaw07.GridMeets", spec := "gridMeets", apart := false }
def GridMeetsSaid : Prop := gridMeetsRow.holds Try.pinned (OpenSpec.ofChange gridMeetsSpec)

/-- ITS FALSE NEIGHBOUR: 'it returns false'. Refute it at one input. -/
def gridMeetsWrong : ChangeSpec := { name := "gridMeets", fn := fun _ => fun
  | [d1, d2, d3] => { results := [.lit (.bool false)], args := [d1, d2, d3] }
  | _ => none }
def GridMeetsWrongFalsely : Prop := gridMeetsRow.holds Try.pinned (OpenSpec.ofChange gridMeetsWrong)

/-- 'chatelainelaw08.BallotOrder': WHATEVER THE INPUT: true; the input reads as it did. -/
def ballotOrderSpec : ChangeSpec := { name := "ballotOrder", fn := fun _ => fun
  | [d1, d2, d3] => { results := [.lit (.bool true)], args := [d1, d2, d3] }
  | _ => none }
def ballotOrderRow : OpenClaim := { program := "ytkfkedpldndgiaa", sum := "1a81b81cdc7221227263b7518b74ca82c808f911ffd401ffc124728330eb6e8b", func := "chatelaine/chatelainelaw08.BallotOrder", spec := "ballotOrder", apart := false }
def BallotOrderSaid : Prop := ballotOrderRow.holds Try.pinned (OpenSpec.ofChange ballotOrderSpec)

/-- ITS FALSE NEIGHBOUR: 'it returns false'. Refute it at one input. -/
def ballotOrderWrong : ChangeSpec := { name := "ballotOrder", fn := fun _ => fun
  | [d1, d2, d3] => { results := [.lit (.bool false)], args := [d1, d2, d3] }
  | _ => none }
def BallotOrderWrongFalsely : Prop := ballotOrderRow.holds Try.pinned (OpenSpec.ofChange ballotOrderWrong)

/-- 'chatelainelaw08.BallotNext': WHATEVER THE INPUT: true; the input reads as it did. -/
def ballotNextSpec : ChangeSpec := { name := "ballotNext", fn := fun _ => fun
  | [d1, d2, d3] => { results := [.lit (.bool true)], args := [d1, d2, d3] }
  | _ => none }
def ballotNextRow : OpenClaim := { program := "ytkfkedpldndgiaa", sum := "1a81b81cdc7221227263b7518b74ca82c808f911ffd401ffc124728330eb6e8b", func := "chatelaine/chatelainelaw08.BallotNext", spec := "ballotNext", apart := false }
def BallotNextSaid : Prop := ballotNextRow.holds Try.pinned (OpenSpec.ofChange ballotNextSpec)

/-- ITS FALSE NEIGHBOUR: 'it returns false'. Refute it at one input. -/
def ballotNextWrong : ChangeSpec := { name := "ballotNext", fn := fun _ => fun
  | [d1, d2, d3] => { results := [.lit (.bool false)], args := [d1, d2, d3] }
  | _ => none }
def BallotNextWrongFalsely : Prop := ballotNextRow.holds Try.pinned (OpenSpec.ofChange ballotNextWrong)

/-- 'chatelainelaw08.BallotBytes': WHATEVER THE INPUT: true; the input reads as it did. -/
def ballotBytesSpec : ChangeSpec := { name := "ballotBytes", fn := fun _ => fun
  | [d1, d2] => { results := [.lit (.bool true)], args := [d1, d2] }
  | _ => none }
def ballotBytesRow : OpenClaim := { program := "ytkfkedpldndgiaa", sum := "1a81b81cdc7221227263b7518b74ca82c808f911ffd401ffc124728330eb6e8b", func := "chatelaine/chatelainelaw08.BallotBytes", spec := "ballotBytes", apart := false }
def BallotBytesSaid : Prop := ballotBytesRow.holds Try.pinned (OpenSpec.ofChange ballotBytesSpec)

/-- ITS FALSE NEIGHBOUR: 'it returns false'. Refute it at one input. -/
def ballotBytesWrong : ChangeSpec := { name := "ballotBytes", fn := fun _ => fun
  | [d1, d2] => { results := [.lit (.bool false)], args := [d1, d2] }
  | _ => none }
def BallotBytesWrongFalsely : Prop := ballotBytesRow.holds Try.pinned (OpenSpec.ofChange ballotBytesWrong)

/-- 'chatelainetop.ChatelaineFrames': WHATEVER THE INPUT: true; the input reads as it did. -/
def chatelaineFramesSpec : ChangeSpec := { name := "chatelaineFrames", fn := fun _ => fun
  | [d1, d2] => { results := [.lit (.bool true)], args := [d1, d2] }
  | _ => none }
def chatelaineFramesRow : OpenClaim := { program := "ytkfkedpldndgiaa", sum := "1a81b81cdc7221227263b7518b74ca82c808f911ffd401ffc124728330eb6e8b", func := "chatelaine/chatelainetop.ChatelaineFrames", spec := "chatelaineFrames", apart := false }
def ChatelaineFramesSaid : Prop := chatelaineFramesRow.holds Try.pinned (OpenSpec.ofChange chatelaineFramesSpec)

/-- ITS FALSE NEIGHBOUR: 'it returns false'. Refute it at one input. -/
def chatelaineFramesWrong : ChangeSpec := { name := "chatelaineFrames", fn := fun _ => fun
  | [d1, d2] => { results := [.lit (.bool false)], args := [d1, d2] }
  | _ => none }
def ChatelaineFramesWrongFalsely : Prop := chatelaineFramesRow.holds Try.pinned (OpenSpec.ofChange chatelaineFramesWrong)

/-- 'chatelainetop.ChatelaineMeet': WHATEVER THE INPUT: true; the input reads as it did. -/
def chatelaineMeetSpec : ChangeSpec := { name := "chatelaineMeet", fn := fun _ => fun
  | [d] => { results := [.lit (.bool true)], args := [d] }
  | _ => none }
def chatelaineMeetRow : OpenClaim := { program := "ytkfkedpldndgiaa", sum := "1a81b81cdc7221227263b7518b74ca82c808f911ffd401ffc124728330eb6e8b", func := "chatelaine/chatelainetop.ChatelaineMeet", spec := "chatelaineMeet", apart := false }
def ChatelaineMeetSaid : Prop := chatelaineMeetRow.holds Try.pinned (OpenSpec.ofChange chatelaineMeetSpec)

/-- ITS FALSE NEIGHBOUR: 'it returns false'. Refute it at one input. -/
def chatelaineMeetWrong : ChangeSpec := { name := "chatelaineMeet", fn := fun _ => fun
  | [d] => { results := [.lit (.bool false)], args := [d] }
  | _ => none }
def ChatelaineMeetWrongFalsely : Prop := chatelaineMeetRow.holds Try.pinned (OpenSpec.ofChange chatelaineMeetWrong)

/-- 'chatelainetop.ChatelaineTurns': WHATEVER THE INPUT: true; the input reads as it did. -/
def chatelaineTurnsSpec : ChangeSpec := { name := "chatelaineTurns", fn := fun _ => fun
  | [d1, d2] => { results := [.lit (.bool true)], args := [d1, d2] }
  | _ => none }
def chatelaineTurnsRow : OpenClaim := { program := "ytkfkedpldndgiaa", sum := "1a81b81cdc7221227263b7518b74ca82c808f911ffd401ffc124728330eb6e8b", func := "chatelaine/chatelainetop.ChatelaineTurns", spec := "chatelaineTurns", apart := false }
def ChatelaineTurnsSaid : Prop := chatelaineTurnsRow.holds Try.pinned (OpenSpec.ofChange chatelaineTurnsSpec)

/-- ITS FALSE NEIGHBOUR: 'it returns false'. Refute it at one input. -/
def chatelaineTurnsWrong : ChangeSpec := { name := "chatelaineTurns", fn := fun _ => fun
  | [d1, d2] => { results := [.lit (.bool false)], args := [d1, d2] }
  | _ => none }
def ChatelaineTurnsWrongFalsely : Prop := chatelaineTurnsRow.holds Try.pinned (OpenSpec.ofChange chatelaineTurnsWrong)

/- THE SECOND FORM. 'bulk': how many values and letters a reading holds, each counted each time it is reached (what is shared counts as often as it is met; a slice's spare places count too). A statement '..UptoSaid' is the law's where the arguments, and the package variables that the reading takes, are together of bulk at most 1048576: NARROWER than '..Said'. Prove '..Said' where nothing that the law and all that it calls make is longer than what came in: it says more and counts as full. Else prove '..UptoSaid'. A law counts once. -/
mutual
def uptoBulk {H : Type} : DataW H → Nat
  | .lit (.string bytes) => bytes.length + 1
  | .lit _ => 1
  | .nil => 1
  | .ptr d => uptoBulk d + 1
  | .slice elems spare => uptoBulkAll elems + uptoBulkAll spare + 1
  | .agg parts => uptoBulkAll parts + 1
  | .iface _ d => uptoBulk d + 1
  | .map entries => uptoBulkEntries entries + 1
  | .held _ => 1
def uptoBulkAll {H : Type} : List (DataW H) → Nat
  | [] => 0
  | d :: r => uptoBulk d + uptoBulkAll r
def uptoBulkEntries {H : Type} : List (Lit × DataW H) → Nat
  | [] => 0
  | x :: r => uptoBulkEntry x + uptoBulkEntries r
def uptoBulkEntry {H : Type} : Lit × DataW H → Nat
  | (.string bytes, d) => bytes.length + uptoBulk d + 1
  | (_, d) => uptoBulk d + 1
 end
def uptoSmall : (H : Type) → List (DataW H) → Bool := fun _ ds => decide (uptoBulkAll ds ≤ 1048576)
def OpenSpec.upto (s : _root_.Go.ChangeSpec) : _root_.Go.OpenSpec := { _root_.Go.OpenSpec.ofChange s with cond := some uptoSmall }

/-- 'chatelainelaw01.CodeReads', WHERE WHAT IT READS IS OF BULK AT MOST 1048576: true; the input reads as it did. -/
def codeReadsUptoRow : OpenClaim := { program := "ytkfkedpldndgiaa", sum := "1a81b81cdc7221227263b7518b74ca82c808f911ffd401ffc124728330eb6e8b", func := "chatelaine/chatelainelaw01.CodeReads", spec := "codeReads", apart := false, narrowed := true }
def CodeReadsUptoSaid : Prop := codeReadsUptoRow.holds Try.pinned (OpenSpec.upto codeReadsSpec)

/-- 'chatelainelaw07.GridChecks', WHERE WHAT IT READS IS OF BULK AT MOST 1048576: true; the input reads as it did. -/
def gridChecksUptoRow : OpenClaim := { program := "ytkfkedpldndgiaa", sum := "1a81b81cdc7221227263b7518b74ca82c808f911ffd401ffc124728330eb6e8b", func := "chatelaine/chatelainelaw07.GridChecks", spec := "gridChecks", apart := false, narrowed := true }
def GridChecksUptoSaid : Prop := gridChecksUptoRow.holds Try.pinned (OpenSpec.upto gridChecksSpec)

/-- 'chatelainelaw07.GridShapes', WHERE WHAT IT READS IS OF BULK AT MOST 1048576: true; the input reads as it did. -/
def gridShapesUptoRow : OpenClaim := { program := "ytkfkedpldndgiaa", sum := "1a81b81cdc7221227263b7518b74ca82c808f911ffd401ffc124728330eb6e8b", func := "chatelaine/chatelainelaw07.GridShapes", spec := "gridShapes", apart := false, narrowed := true }
def GridShapesUptoSaid : Prop := gridShapesUptoRow.holds Try.pinned (OpenSpec.upto gridShapesSpec)

/-- 'chatelainelaw07.GridQuorums', WHERE WHAT IT READS IS OF BULK AT MOST 1048576: true; the input reads as it did. -/
def gridQuorumsUptoRow : OpenClaim := { program := "ytkfkedpldndgiaa", sum := "1a81b81cdc7221227263b7518b74ca82c808f911ffd401ffc124728330eb6e8b", func := "chatelaine/chatelainelaw07.GridQuorums", spec := "gridQuorums", apart := false, narrowed := true }
def GridQuorumsUptoSaid : Prop := gridQuorumsUptoRow.holds Try.pinned (OpenSpec.upto gridQuorumsSpec)

/-- 'chatelainelaw07.GridMeets', WHERE WHAT IT READS IS OF BULK AT MOST 1048576: true; the input reads as it did. -/
def gridMeetsUptoRow : OpenClaim := { program := "ytkfkedpldndgiaa", sum := "1a81b81cdc7221227263b7518b74ca82c808f911ffd401ffc124728330eb6e8b", func := "chatelaine/chatelainelaw07.GridMeets", spec := "gridMeets", apart := false, narrowed := true }
def GridMeetsUptoSaid : Prop := gridMeetsUptoRow.holds Try.pinned (OpenSpec.upto gridMeetsSpec)

/-- 'chatelainelaw08.BallotOrder', WHERE WHAT IT READS IS OF BULK AT MOST 1048576: true; the input reads as it did. -/
def ballotOrderUptoRow : OpenClaim := { program := "ytkfkedpldndgiaa", sum := "1a81b81cdc7221227263b7518b74ca82c808f911ffd401ffc124728330eb6e8b", func := "chatelaine/chatelainelaw08.BallotOrder", spec := "ballotOrder", apart := false, narrowed := true }
def BallotOrderUptoSaid : Prop := ballotOrderUptoRow.holds Try.pinned (OpenSpec.upto ballotOrderSpec)

/-- 'chatelainelaw08.BallotNext', WHERE WHAT IT READS IS OF BULK AT MOST 1048576: true; the input reads as it did. -/
def ballotNextUptoRow : OpenClaim := { program := "ytkfkedpldndgiaa", sum := "1a81b81cdc7221227263b7518b74ca82c808f911ffd401ffc124728330eb6e8b", func := "chatelaine/chatelainelaw08.BallotNext", spec := "ballotNext", apart := false, narrowed := true }
def BallotNextUptoSaid : Prop := ballotNextUptoRow.holds Try.pinned (OpenSpec.upto ballotNextSpec)

/-- 'chatelainelaw08.BallotBytes', WHERE WHAT IT READS IS OF BULK AT MOST 1048576: true; the input reads as it did. -/
def ballotBytesUptoRow : OpenClaim := { program := "ytkfkedpldndgiaa", sum := "1a81b81cdc7221227263b7518b74ca82c808f911ffd401ffc124728330eb6e8b", func := "chatelaine/chatelainelaw08.BallotBytes", spec := "ballotBytes", apart := false, narrowed := true }
def BallotBytesUptoSaid : Prop := ballotBytesUptoRow.holds Try.pinned (OpenSpec.upto ballotBytesSpec)

/-- 'chatelainetop.ChatelaineFrames', WHERE WHAT IT READS IS OF BULK AT MOST 1048576: true; the input reads as it did. -/
def chatelaineFramesUptoRow : OpenClaim := { program := "ytkfkedpldndgiaa", sum := "1a81b81cdc7221227263b7518b74ca82c808f911ffd401ffc124728330eb6e8b", func := "chatelaine/chatelainetop.ChatelaineFrames", spec := "chatelaineFrames", apart := false, narrowed := true }
def ChatelaineFramesUptoSaid : Prop := chatelaineFramesUptoRow.holds Try.pinned (OpenSpec.upto chatelaineFramesSpec)

/-- 'chatelainetop.ChatelaineMeet', WHERE WHAT IT READS IS OF BULK AT MOST 1048576: true; the input reads as it did. -/
def chatelaineMeetUptoRow : OpenClaim := { program := "ytkfkedpldndgiaa", sum := "1a81b81cdc7221227263b7518b74ca82c808f911ffd401ffc124728330eb6e8b", func := "chatelaine/chatelainetop.ChatelaineMeet", spec := "chatelaineMeet", apart := false, narrowed := true }
def ChatelaineMeetUptoSaid : Prop := chatelaineMeetUptoRow.holds Try.pinned (OpenSpec.upto chatelaineMeetSpec)

/-- 'chatelainetop.ChatelaineTurns', WHERE WHAT IT READS IS OF BULK AT MOST 1048576: true; the input reads as it did. -/
def chatelaineTurnsUptoRow : OpenClaim := { program := "ytkfkedpldndgiaa", sum := "1a81b81cdc7221227263b7518b74ca82c808f911ffd401ffc124728330eb6e8b", func := "chatelaine/chatelainetop.ChatelaineTurns", spec := "chatelaineTurns", apart := false, narrowed := true }
def ChatelaineTurnsUptoSaid : Prop := chatelaineTurnsUptoRow.holds Try.pinned (OpenSpec.upto chatelaineTurnsSpec)

end Rows
end Go.Proofs.Ytkfkedpldndgiaa
