/-
  No cell of these rows narrows 'for every input' (looked for: loops, veiled, ifaces, maps, wideKeys, modest, calm, conditions, laid).
  DERIVED. THE GIVEN ROWS OF THIS SEAT. 7 by the template 'for every input the law returns true; each argument reads behind the call as it read before'; 0 by the template 'total and deterministic' (their statements: YtegapeplbincnaaTotals.lean).
  GIVEN WITH THE SEED: the statements are not yours to turn. If you find one false, say at which input.
  Laid BY PROGRAM, IN A SANDBOX (cutbox-rows.mjs): the forced cells as the released guide's own fill.sh prints them over the translation e9ae79e8a5139c84… (all of the seat's roots in one cut). By AI agents, Wed Nov 11 2026. No macro, syntax, notation, axiom, sorry.
-/
import Derived.Test.YtegapeplbincnaaChecked
import GoSem.Claim
import GoSem.ClaimJoined
import GoSem.ClaimMapViews
import Derived.JoinedTies
import Derived.KernelRfl
namespace Go.Proofs.Ytegapeplbincnaa
/- THE CELL 'sum', in the pinned program and in every row, IS THE sha256 OF THE DUMP (.gsa) THAT YtegapeplbincnaaProg.lean LOADS. Nothing in Lean hashes anything: it is a label: what it is worth is what the hold of that sum in a sandbox is worth. -/
noncomputable def Try.pinned : Pinned := { name := "ytegapeplbincnaa", sum := "e9ae79e8a5139c84fa0b5d9e757e3a078828df00278be118fa260ba7909ac8dc", checked := Try.checked }
namespace Rows
def none {H : Type} : Left H := { results := [], args := [] }

/-- 'chatelainelaw01.CodeReads': WHATEVER THE INPUT: true; the input reads as it did. -/
def codeReadsSpec : ChangeSpec := { name := "codeReads", fn := fun _ => fun
  | [d1, d2] => { results := [.lit (.bool true)], args := [d1, d2] }
  | _ => none }
def codeReadsRow : OpenClaim := { program := "ytegapeplbincnaa", sum := "e9ae79e8a5139c84fa0b5d9e757e3a078828df00278be118fa260ba7909ac8dc", func := "chatelaine/chatelainelaw01.CodeReads", spec := "codeReads", apart := false }
def CodeReadsSaid : Prop := codeReadsRow.holds Try.pinned (OpenSpec.ofChange codeReadsSpec)

/-- ITS FALSE NEIGHBOUR: 'it returns false'. Refute it at one input. -/
def codeReadsWrong : ChangeSpec := { name := "codeReads", fn := fun _ => fun
  | [d1, d2] => { results := [.lit (.bool false)], args := [d1, d2] }
  | _ => none }
def CodeReadsWrongFalsely : Prop := codeReadsRow.holds Try.pinned (OpenSpec.ofChange codeReadsWrong)

/-- 'chatelainelaw10.MsgChecks': WHATEVER THE INPUT: true; the input reads as it did. -/
def msgChecksSpec : ChangeSpec := { name := "msgChecks", fn := fun _ => fun
  | [d] => { results := [.lit (.bool true)], args := [d] }
  | _ => none }
def msgChecksRow : OpenClaim := { program := "ytegapeplbincnaa", sum := "e9ae79e8a5139c84fa0b5d9e757e3a078828df00278be118fa260ba7909ac8dc", func := "chatelaine/chatelainelaw10.MsgChecks", spec := "msgChecks", unfollowed := true, recurses := true, apart := false }
def MsgChecksSaid : Prop := msgChecksRow.holds Try.pinned (OpenSpec.ofChange msgChecksSpec)

/-- ITS FALSE NEIGHBOUR: 'it returns false'. Refute it at one input. -/
def msgChecksWrong : ChangeSpec := { name := "msgChecks", fn := fun _ => fun
  | [d] => { results := [.lit (.bool false)], args := [d] }
  | _ => none }
def MsgChecksWrongFalsely : Prop := msgChecksRow.holds Try.pinned (OpenSpec.ofChange msgChecksWrong)

/-- 'chatelainelaw10.MsgBack': WHATEVER THE INPUT: true; the input reads as it did. -/
def msgBackSpec : ChangeSpec := { name := "msgBack", fn := fun _ => fun
  | [d] => { results := [.lit (.bool true)], args := [d] }
  | _ => none }
def msgBackRow : OpenClaim := { program := "ytegapeplbincnaa", sum := "e9ae79e8a5139c84fa0b5d9e757e3a078828df00278be118fa260ba7909ac8dc", func := "chatelaine/chatelainelaw10.MsgBack", spec := "msgBack", unfollowed := true, recurses := true, apart := false }
def MsgBackSaid : Prop := msgBackRow.holds Try.pinned (OpenSpec.ofChange msgBackSpec)

/-- ITS FALSE NEIGHBOUR: 'it returns false'. Refute it at one input. -/
def msgBackWrong : ChangeSpec := { name := "msgBack", fn := fun _ => fun
  | [d] => { results := [.lit (.bool false)], args := [d] }
  | _ => none }
def MsgBackWrongFalsely : Prop := msgBackRow.holds Try.pinned (OpenSpec.ofChange msgBackWrong)

/-- 'chatelainelaw10.MsgParses': WHATEVER THE INPUT: true; the input reads as it did. -/
def msgParsesSpec : ChangeSpec := { name := "msgParses", fn := fun _ => fun
  | [d] => { results := [.lit (.bool true)], args := [d] }
  | _ => none }
def msgParsesRow : OpenClaim := { program := "ytegapeplbincnaa", sum := "e9ae79e8a5139c84fa0b5d9e757e3a078828df00278be118fa260ba7909ac8dc", func := "chatelaine/chatelainelaw10.MsgParses", spec := "msgParses", unfollowed := true, recurses := true, apart := false }
def MsgParsesSaid : Prop := msgParsesRow.holds Try.pinned (OpenSpec.ofChange msgParsesSpec)

/-- ITS FALSE NEIGHBOUR: 'it returns false'. Refute it at one input. -/
def msgParsesWrong : ChangeSpec := { name := "msgParses", fn := fun _ => fun
  | [d] => { results := [.lit (.bool false)], args := [d] }
  | _ => none }
def MsgParsesWrongFalsely : Prop := msgParsesRow.holds Try.pinned (OpenSpec.ofChange msgParsesWrong)

/-- 'chatelainelaw10.MsgSame': WHATEVER THE INPUT: true; the input reads as it did. -/
def msgSameSpec : ChangeSpec := { name := "msgSame", fn := fun _ => fun
  | [d1, d2] => { results := [.lit (.bool true)], args := [d1, d2] }
  | _ => none }
def msgSameRow : OpenClaim := { program := "ytegapeplbincnaa", sum := "e9ae79e8a5139c84fa0b5d9e757e3a078828df00278be118fa260ba7909ac8dc", func := "chatelaine/chatelainelaw10.MsgSame", spec := "msgSame", unfollowed := true, recurses := true, apart := false }
def MsgSameSaid : Prop := msgSameRow.holds Try.pinned (OpenSpec.ofChange msgSameSpec)

/-- ITS FALSE NEIGHBOUR: 'it returns false'. Refute it at one input. -/
def msgSameWrong : ChangeSpec := { name := "msgSame", fn := fun _ => fun
  | [d1, d2] => { results := [.lit (.bool false)], args := [d1, d2] }
  | _ => none }
def MsgSameWrongFalsely : Prop := msgSameRow.holds Try.pinned (OpenSpec.ofChange msgSameWrong)

/-- 'chatelainetop.ChatelaineFrames': WHATEVER THE INPUT: true; the input reads as it did. -/
def chatelaineFramesSpec : ChangeSpec := { name := "chatelaineFrames", fn := fun _ => fun
  | [d1, d2] => { results := [.lit (.bool true)], args := [d1, d2] }
  | _ => none }
def chatelaineFramesRow : OpenClaim := { program := "ytegapeplbincnaa", sum := "e9ae79e8a5139c84fa0b5d9e757e3a078828df00278be118fa260ba7909ac8dc", func := "chatelaine/chatelainetop.ChatelaineFrames", spec := "chatelaineFrames", apart := false }
def ChatelaineFramesSaid : Prop := chatelaineFramesRow.holds Try.pinned (OpenSpec.ofChange chatelaineFramesSpec)

/-- ITS FALSE NEIGHBOUR: 'it returns false'. Refute it at one input. -/
def chatelaineFramesWrong : ChangeSpec := { name := "chatelaineFrames", fn := fun _ => fun
  | [d1, d2] => { results := [.lit (.bool false)], args := [d1, d2] }
  | _ => none }
def ChatelaineFramesWrongFalsely : Prop := chatelaineFramesRow.holds Try.pinned (OpenSpec.ofChange chatelaineFramesWrong)

/-- 'chatelainetop.ChatelaineTurns': WHATEVER THE INPUT: true; the input reads as it did. -/
def chatelaineTurnsSpec : ChangeSpec := { name := "chatelaineTurns", fn := fun _ => fun
  | [d1, d2] => { results := [.lit (.bool true)], args := [d1, d2] }
  | _ => none }
def chatelaineTurnsRow : OpenClaim := { program := "ytegapeplbincnaa", sum := "e9ae79e8a5139c84fa0b5d9e757e3a078828df00278be118fa260ba7909ac8dc", func := "chatelaine/chatelainetop.ChatelaineTurns", spec := "chatelaineTurns", apart := false }
def ChatelaineTurnsSaid : Prop := chatelaineTurnsRow.holds Try.pinned (OpenSpec.ofChange chatelaineTurnsSpec)

/-- ITS FALSE NEIGHBOUR: 'it returns false'. Refute it at one input. -/
def chatelaineTurnsWrong : ChangeSpec := { name := "chatelaineTurns", fn := fun _ => fun
  | [d1, d2] => { results := [.lit (.bool false)], args := [d1, d2] }
  | _ => none }
def ChatelaineTurnsWrongFalsely : Prop := chatelaineTurnsRow.holds Try.pinned (OpenSpec.ofChange chatelaineTurnsWrong)

/- THE SECOND FORM. 'bulk': how many values and letters a reading holds, each counted each time it is reached (what is shared counts as often as it is met; a slice's spare places count too). A statement '..UptoSaid' is the law's where the arguments, and the package variables that the reading takes, are together of bulk at most 1048576: NARROWER than '..Said'. Prove '..Said' where nothing that the law and all that it calls make is longer than what came in: it says more and counts as full. Else prove '..UptoSaid'. A law counts once. -/
mutual
def uptoBulk {H : Type} : DataW H → Nat
  | .lit (.string bytes) => bytes.length + 1
  | .lit _ => 1
  | .nil => 1
  | .ptr d => uptoBulk d + 1
  | .slice elems spare => uptoBulkAll elems + uptoBulkAll spare + 1
  | .agg parts => uptoBulkAll parts + 1
  | .iface _ d => uptoBulk d + 1
  | .map entries => uptoBulkEntries entries + 1
  | .held _ => 1
def uptoBulkAll {H : Type} : List (DataW H) → Nat
  | [] => 0
  | d :: r => uptoBulk d + uptoBulkAll r
def uptoBulkEntries {H : Type} : List (Lit × DataW H) → Nat
  | [] => 0
  | x :: r => uptoBulkEntry x + uptoBulkEntries r
def uptoBulkEntry {H : Type} : Lit × DataW H → Nat
  | (.string bytes, d) => bytes.length + uptoBulk d + 1
  | (_, d) => uptoBulk d + 1
 end
def uptoSmall : (H : Type) → List (DataW H) → Bool := fun _ ds => decide (uptoBulkAll ds ≤ 1048576)
def OpenSpec.upto (s : _root_.Go.ChangeSpec) : _root_.Go.OpenSpec := { _root_.Go.OpenSpec.ofChange s with cond := some uptoSmall }

/-- 'chatelainelaw01.CodeReads', WHERE WHAT IT READS IS OF BULK AT MOST 1048576: true; the input reads as it did. -/
def codeReadsUptoRow : OpenClaim := { program := "ytegapeplbincnaa", sum := "e9ae79e8a5139c84fa0b5d9e757e3a078828df00278be118fa260ba7909ac8dc", func := "chatelaine/chatelainelaw01.CodeReads", spec := "codeReads", apart := false, narrowed := true }
def CodeReadsUptoSaid : Prop := codeReadsUptoRow.holds Try.pinned (OpenSpec.upto codeReadsSpec)

/-- 'chatelainelaw10.MsgChecks', WHERE WHAT IT READS IS OF BULK AT MOST 1048576: true; the input reads as it did. -/
def msgChecksUptoRow : OpenClaim := { program := "ytegapeplbincnaa", sum := "e9ae79e8a5139c84fa0b5d9e757e3a078828df00278be118fa260ba7909ac8dc", func := "chatelaine/chatelainelaw10.MsgChecks", spec := "msgChecks", unfollowed := true, recurses := true, apart := false, narrowed := true }
def MsgChecksUptoSaid : Prop := msgChecksUptoRow.holds Try.pinned (OpenSpec.upto msgChecksSpec)

/-- 'chatelainelaw10.MsgBack', WHERE WHAT IT READS IS OF BULK AT MOST 1048576: true; the input reads as it did. -/
def msgBackUptoRow : OpenClaim := { program := "ytegapeplbincnaa", sum := "e9ae79e8a5139c84fa0b5d9e757e3a078828df00278be118fa260ba7909ac8dc", func := "chatelaine/chatelainelaw10.MsgBack", spec := "msgBack", unfollowed := true, recurses := true, apart := false, narrowed := true }
def MsgBackUptoSaid : Prop := msgBackUptoRow.holds Try.pinned (OpenSpec.upto msgBackSpec)

/-- 'chatelainelaw10.MsgParses', WHERE WHAT IT READS IS OF BULK AT MOST 1048576: true; the input reads as it did. -/
def msgParsesUptoRow : OpenClaim := { program := "ytegapeplbincnaa", sum := "e9ae79e8a5139c84fa0b5d9e757e3a078828df00278be118fa260ba7909ac8dc", func := "chatelaine/chatelainelaw10.MsgParses", spec := "msgParses", unfollowed := true, recurses := true, apart := false, narrowed := true }
def MsgParsesUptoSaid : Prop := msgParsesUptoRow.holds Try.pinned (OpenSpec.upto msgParsesSpec)

/-- 'chatelainelaw10.MsgSame', WHERE WHAT IT READS IS OF BULK AT MOST 1048576: true; the input reads as it did. -/
def msgSameUptoRow : OpenClaim := { program := "ytegapeplbincnaa", sum := "e9ae79e8a5139c84fa0b5d9e757e3a078828df00278be118fa260ba7909ac8dc", func := "chatelaine/chatelainelaw10.MsgSame", spec := "msgSame", unfollowed := true, recurses := true, apart := false, narrowed := true }
def MsgSameUptoSaid : Prop := msgSameUptoRow.holds Try.pinned (OpenSpec.upto msgSameSpec)

/-- 'chatelainetop.ChatelaineFrames', WHERE WHAT IT READS IS OF BULK AT MOST 1048576: true; the input reads as it did. -/
def chatelaineFramesUptoRow : OpenClaim := { program := "ytegapeplbincnaa", sum := "e9ae79e8a5139c84fa0b5d9e757e3a078828df00278be118fa260ba7909ac8dc", func := "chatelaine/chatelainetop.ChatelaineFrames", spec := "chatelaineFrames", apart := false, narrowed := true }
def ChatelaineFramesUptoSaid : Prop := chatelaineFramesUptoRow.holds Try.pinned (OpenSpec.upto chatelaineFramesSpec)

/-- 'chatelainetop.ChatelaineTurns', WHERE WHAT IT READS IS OF BULK AT MOST 1048576: true; the input reads as it did. -/
def chatelaineTurnsUptoRow : OpenClaim := { program := "ytegapeplbincnaa", sum := "e9ae79e8a5139c84fa0b5d9e757e3a078828df00278be118fa260ba7909ac8dc", func := "chatelaine/chatelainetop.ChatelaineTurns", spec := "chatelaineTurns", apart := false, narrowed := true }
def ChatelaineTurnsUptoSaid : Prop := chatelaineTurnsUptoRow.holds Try.pinned (OpenSpec.upto chatelaineTurnsSpec)

end Rows
end Go.Proofs.Ytegapeplbincnaa
