/-
  No cell of these rows narrows 'for every input' (looked for: loops, veiled, ifaces, maps, wideKeys, modest, calm, conditions, laid).
  DERIVED. THE GIVEN ROWS OF THIS SEAT. 9 by the template 'for every input the law returns true; each argument reads behind the call as it read before'; 0 by the template 'total and deterministic' (their statements: YtihhfdkcggnjpaaTotals.lean).
  GIVEN WITH THE SEED: the statements are not yours to turn. If you find one false, say at which input.
  Laid BY PROGRAM, IN A SANDBOX (cutbox-rows.mjs): the forced cells as the released guide's own fill.sh prints them over the translation 6d800c8a3494d17f… (all of the seat's roots in one cut). By AI agents, Wed Nov 11 2026. No macro, syntax, notation, axiom, sorry.
-/
import Derived.Test.YtihhfdkcggnjpaaChecked
import GoSem.Claim
import GoSem.ClaimJoined
import GoSem.ClaimMapViews
import Derived.JoinedTies
import Derived.KernelRfl
namespace Go.Proofs.Ytihhfdkcggnjpaa
/- THE CELL 'sum', in the pinned program and in every row, IS THE sha256 OF THE DUMP (.gsa) THAT YtihhfdkcggnjpaaProg.lean LOADS. Nothing in Lean hashes anything: it is a label: what it is worth is what the hold of that sum in a sandbox is worth. -/
noncomputable def Try.pinned : Pinned := { name := "ytihhfdkcggnjpaa", sum := "6d800c8a3494d17f2d709c599f618c4b79a52a209656fe5f7325f80e2cccb65d", checked := Try.checked }
namespace Rows
def none {H : Type} : Left H := { results := [], args := [] }

/-- 'chatelainelaw20.LeaseOne': WHATEVER THE INPUT: true; the input reads as it did. -/
def leaseOneSpec : ChangeSpec := { name := "leaseOne", fn := fun _ => fun
  | [d1, d2, d3] => { results := [.lit (.bool true)], args := [d1, d2, d3] }
  | _ => none }
def leaseOneRow : OpenClaim := { program := "ytihhfdkcggnjpaa", sum := "6d800c8a3494d17f2d709c599f618c4b79a52a209656fe5f7325f80e2cccb65d", func := "chatelaine/chatelainelaw20.LeaseOne", spec := "leaseOne", unfollowed := true, recurses := true, apart := false }
def LeaseOneSaid : Prop := leaseOneRow.holds Try.pinned (OpenSpec.ofChange leaseOneSpec)

/-- ITS FALSE NEIGHBOUR: 'it returns false'. Refute it at one input. -/
def leaseOneWrong : ChangeSpec := { name := "leaseOne", fn := fun _ => fun
  | [d1, d2, d3] => { results := [.lit (.bool false)], args := [d1, d2, d3] }
  | _ => none }
def LeaseOneWrongFalsely : Prop := leaseOneRow.holds Try.pinned (OpenSpec.ofChange leaseOneWrong)

/-- 'chatelainelaw20.LeaseComes': WHATEVER THE INPUT: true; the input reads as it did. -/
def leaseComesSpec : ChangeSpec := { name := "leaseComes", fn := fun _ => fun
  | [d] => { results := [.lit (.bool true)], args := [d] }
  | _ => none }
def leaseComesRow : OpenClaim := { program := "ytihhfdkcggnjpaa", sum := "6d800c8a3494d17f2d709c599f618c4b79a52a209656fe5f7325f80e2cccb65d", func := "chatelaine/chatelainelaw20.LeaseComes", spec := "leaseComes", unfollowed := true, recurses := true, apart := false }
def LeaseComesSaid : Prop := leaseComesRow.holds Try.pinned (OpenSpec.ofChange leaseComesSpec)

/-- ITS FALSE NEIGHBOUR: 'it returns false'. Refute it at one input. -/
def leaseComesWrong : ChangeSpec := { name := "leaseComes", fn := fun _ => fun
  | [d] => { results := [.lit (.bool false)], args := [d] }
  | _ => none }
def LeaseComesWrongFalsely : Prop := leaseComesRow.holds Try.pinned (OpenSpec.ofChange leaseComesWrong)

/-- 'chatelainelaw10.MsgSame': WHATEVER THE INPUT: true; the input reads as it did. -/
def msgSameSpec : ChangeSpec := { name := "msgSame", fn := fun _ => fun
  | [d1, d2] => { results := [.lit (.bool true)], args := [d1, d2] }
  | _ => none }
def msgSameRow : OpenClaim := { program := "ytihhfdkcggnjpaa", sum := "6d800c8a3494d17f2d709c599f618c4b79a52a209656fe5f7325f80e2cccb65d", func := "chatelaine/chatelainelaw10.MsgSame", spec := "msgSame", unfollowed := true, recurses := true, apart := false }
def MsgSameSaid : Prop := msgSameRow.holds Try.pinned (OpenSpec.ofChange msgSameSpec)

/-- ITS FALSE NEIGHBOUR: 'it returns false'. Refute it at one input. -/
def msgSameWrong : ChangeSpec := { name := "msgSame", fn := fun _ => fun
  | [d1, d2] => { results := [.lit (.bool false)], args := [d1, d2] }
  | _ => none }
def MsgSameWrongFalsely : Prop := msgSameRow.holds Try.pinned (OpenSpec.ofChange msgSameWrong)

/-- 'chatelainelaw10.MsgChecks': WHATEVER THE INPUT: true; the input reads as it did. -/
def msgChecksSpec : ChangeSpec := { name := "msgChecks", fn := fun _ => fun
  | [d] => { results := [.lit (.bool true)], args := [d] }
  | _ => none }
def msgChecksRow : OpenClaim := { program := "ytihhfdkcggnjpaa", sum := "6d800c8a3494d17f2d709c599f618c4b79a52a209656fe5f7325f80e2cccb65d", func := "chatelaine/chatelainelaw10.MsgChecks", spec := "msgChecks", unfollowed := true, recurses := true, apart := false }
def MsgChecksSaid : Prop := msgChecksRow.holds Try.pinned (OpenSpec.ofChange msgChecksSpec)

/-- ITS FALSE NEIGHBOUR: 'it returns false'. Refute it at one input. -/
def msgChecksWrong : ChangeSpec := { name := "msgChecks", fn := fun _ => fun
  | [d] => { results := [.lit (.bool false)], args := [d] }
  | _ => none }
def MsgChecksWrongFalsely : Prop := msgChecksRow.holds Try.pinned (OpenSpec.ofChange msgChecksWrong)

/-- 'chatelainelaw10.MsgBack': WHATEVER THE INPUT: true; the input reads as it did. -/
def msgBackSpec : ChangeSpec := { name := "msgBack", fn := fun _ => fun
  | [d] => { results := [.lit (.bool true)], args := [d] }
  | _ => none }
def msgBackRow : OpenClaim := { program := "ytihhfdkcggnjpaa", sum := "6d800c8a3494d17f2d709c599f618c4b79a52a209656fe5f7325f80e2cccb65d", func := "chatelaine/chatelainelaw10.MsgBack", spec := "msgBack", unfollowed := true, recurses := true, apart := false }
def MsgBackSaid : Prop := msgBackRow.holds Try.pinned (OpenSpec.ofChange msgBackSpec)

/-- ITS FALSE NEIGHBOUR: 'it returns false'. Refute it at one input. -/
def msgBackWrong : ChangeSpec := { name := "msgBack", fn := fun _ => fun
  | [d] => { results := [.lit (.bool false)], args := [d] }
  | _ => none }
def MsgBackWrongFalsely : Prop := msgBackRow.holds Try.pinned (OpenSpec.ofChange msgBackWrong)

/-- 'chatelainelaw10.MsgParses': WHATEVER THE INPUT: true; the input reads as it did. -/
def msgParsesSpec : ChangeSpec := { name := "msgParses", fn := fun _ => fun
  | [d] => { results := [.lit (.bool true)], args := [d] }
  | _ => none }
def msgParsesRow : OpenClaim := { program := "ytihhfdkcggnjpaa", sum := "6d800c8a3494d17f2d709c599f618c4b79a52a209656fe5f7325f80e2cccb65d", func := "chatelaine/chatelainelaw10.MsgParses", spec := "msgParses", unfollowed := true, recurses := true, apart := false }
def MsgParsesSaid : Prop := msgParsesRow.holds Try.pinned (OpenSpec.ofChange msgParsesSpec)

/-- ITS FALSE NEIGHBOUR: 'it returns false'. Refute it at one input. -/
def msgParsesWrong : ChangeSpec := { name := "msgParses", fn := fun _ => fun
  | [d] => { results := [.lit (.bool false)], args := [d] }
  | _ => none }
def MsgParsesWrongFalsely : Prop := msgParsesRow.holds Try.pinned (OpenSpec.ofChange msgParsesWrong)

/-- 'chatelainelaw16.AcceptPlays': WHATEVER THE INPUT: true; the input reads as it did. -/
def acceptPlaysSpec : ChangeSpec := { name := "acceptPlays", fn := fun _ => fun
  | [d1, d2] => { results := [.lit (.bool true)], args := [d1, d2] }
  | _ => none }
def acceptPlaysRow : OpenClaim := { program := "ytihhfdkcggnjpaa", sum := "6d800c8a3494d17f2d709c599f618c4b79a52a209656fe5f7325f80e2cccb65d", func := "chatelaine/chatelainelaw16.AcceptPlays", spec := "acceptPlays", inPlace := ["slices.overlaps[chatelaine/msg.Entry]"], unfollowed := true, recurses := true, apart := false }
def AcceptPlaysSaid : Prop := acceptPlaysRow.holds Try.pinned (OpenSpec.ofChange acceptPlaysSpec)

/-- ITS FALSE NEIGHBOUR: 'it returns false'. Refute it at one input. -/
def acceptPlaysWrong : ChangeSpec := { name := "acceptPlays", fn := fun _ => fun
  | [d1, d2] => { results := [.lit (.bool false)], args := [d1, d2] }
  | _ => none }
def AcceptPlaysWrongFalsely : Prop := acceptPlaysRow.holds Try.pinned (OpenSpec.ofChange acceptPlaysWrong)

/-- 'chatelainelaw16.AcceptBytes': WHATEVER THE INPUT: true; the input reads as it did. -/
def acceptBytesSpec : ChangeSpec := { name := "acceptBytes", fn := fun _ => fun
  | [d1, d2, d3] => { results := [.lit (.bool true)], args := [d1, d2, d3] }
  | _ => none }
def acceptBytesRow : OpenClaim := { program := "ytihhfdkcggnjpaa", sum := "6d800c8a3494d17f2d709c599f618c4b79a52a209656fe5f7325f80e2cccb65d", func := "chatelaine/chatelainelaw16.AcceptBytes", spec := "acceptBytes", inPlace := ["slices.overlaps[chatelaine/msg.Entry]"], unfollowed := true, recurses := true, apart := false }
def AcceptBytesSaid : Prop := acceptBytesRow.holds Try.pinned (OpenSpec.ofChange acceptBytesSpec)

/-- ITS FALSE NEIGHBOUR: 'it returns false'. Refute it at one input. -/
def acceptBytesWrong : ChangeSpec := { name := "acceptBytes", fn := fun _ => fun
  | [d1, d2, d3] => { results := [.lit (.bool false)], args := [d1, d2, d3] }
  | _ => none }
def AcceptBytesWrongFalsely : Prop := acceptBytesRow.holds Try.pinned (OpenSpec.ofChange acceptBytesWrong)

/-- 'chatelainelaw20.LeaseLong': WHATEVER THE INPUT: true; the input reads as it did. -/
def leaseLongSpec : ChangeSpec := { name := "leaseLong", fn := fun _ => fun
  | [d1, d2, d3] => { results := [.lit (.bool true)], args := [d1, d2, d3] }
  | _ => none }
def leaseLongRow : OpenClaim := { program := "ytihhfdkcggnjpaa", sum := "6d800c8a3494d17f2d709c599f618c4b79a52a209656fe5f7325f80e2cccb65d", func := "chatelaine/chatelainelaw20.LeaseLong", spec := "leaseLong", apart := false }
def LeaseLongSaid : Prop := leaseLongRow.holds Try.pinned (OpenSpec.ofChange leaseLongSpec)

/-- ITS FALSE NEIGHBOUR: 'it returns false'. Refute it at one input. -/
def leaseLongWrong : ChangeSpec := { name := "leaseLong", fn := fun _ => fun
  | [d1, d2, d3] => { results := [.lit (.bool false)], args := [d1, d2, d3] }
  | _ => none }
def LeaseLongWrongFalsely : Prop := leaseLongRow.holds Try.pinned (OpenSpec.ofChange leaseLongWrong)

/- THE SECOND FORM. 'bulk': how many values and letters a reading holds, each counted each time it is reached (what is shared counts as often as it is met; a slice's spare places count too). A statement '..UptoSaid' is the law's where the arguments, and the package variables that the reading takes, are together of bulk at most 1048576: NARROWER than '..Said'. Prove '..Said' where nothing that the law and all that it calls make is longer than what came in: it says more and counts as full. Else prove '..UptoSaid'. A law counts once. -/
mutual
def uptoBulk {H : Type} : DataW H → Nat
  | .lit (.string bytes) => bytes.length + 1
  | .lit _ => 1
  | .nil => 1
  | .ptr d => uptoBulk d + 1
  | .slice elems spare => uptoBulkAll elems + uptoBulkAll spare + 1
  | .agg parts => uptoBulkAll parts + 1
  | .iface _ d => uptoBulk d + 1
  | .map entries => uptoBulkEntries entries + 1
  | .held _ => 1
def uptoBulkAll {H : Type} : List (DataW H) → Nat
  | [] => 0
  | d :: r => uptoBulk d + uptoBulkAll r
def uptoBulkEntries {H : Type} : List (Lit × DataW H) → Nat
  | [] => 0
  | x :: r => uptoBulkEntry x + uptoBulkEntries r
def uptoBulkEntry {H : Type} : Lit × DataW H → Nat
  | (.string bytes, d) => bytes.length + uptoBulk d + 1
  | (_, d) => uptoBulk d + 1
 end
def uptoSmall : (H : Type) → List (DataW H) → Bool := fun _ ds => decide (uptoBulkAll ds ≤ 1048576)
def OpenSpec.upto (s : _root_.Go.ChangeSpec) : _root_.Go.OpenSpec := { _root_.Go.OpenSpec.ofChange s with cond := some uptoSmall }

/-- 'chatelainelaw20.LeaseOne', WHERE WHAT IT READS IS OF BULK AT MOST 1048576: true; the input reads as it did. -/
def leaseOneUptoRow : OpenClaim := { program := "ytihhfdkcggnjpaa", sum := "6d800c8a3494d17f2d709c599f618c4b79a52a209656fe5f7325f80e2cccb65d", func := "chatelaine/chatelainelaw20.LeaseOne", spec := "leaseOne", unfollowed := true, recurses := true, apart := false, narrowed := true }
def LeaseOneUptoSaid : Prop := leaseOneUptoRow.holds Try.pinned (OpenSpec.upto leaseOneSpec)

/-- 'chatelainelaw20.LeaseComes', WHERE WHAT IT READS IS OF BULK AT MOST 1048576: true; the input reads as it did. -/
def leaseComesUptoRow : OpenClaim := { program := "ytihhfdkcggnjpaa", sum := "6d800c8a3494d17f2d709c599f618c4b79a52a209656fe5f7325f80e2cccb65d", func := "chatelaine/chatelainelaw20.LeaseComes", spec := "leaseComes", unfollowed := true, recurses := true, apart := false, narrowed := true }
def LeaseComesUptoSaid : Prop := leaseComesUptoRow.holds Try.pinned (OpenSpec.upto leaseComesSpec)

/-- 'chatelainelaw10.MsgSame', WHERE WHAT IT READS IS OF BULK AT MOST 1048576: true; the input reads as it did. -/
def msgSameUptoRow : OpenClaim := { program := "ytihhfdkcggnjpaa", sum := "6d800c8a3494d17f2d709c599f618c4b79a52a209656fe5f7325f80e2cccb65d", func := "chatelaine/chatelainelaw10.MsgSame", spec := "msgSame", unfollowed := true, recurses := true, apart := false, narrowed := true }
def MsgSameUptoSaid : Prop := msgSameUptoRow.holds Try.pinned (OpenSpec.upto msgSameSpec)

/-- 'chatelainelaw10.MsgChecks', WHERE WHAT IT READS IS OF BULK AT MOST 1048576: true; the input reads as it did. -/
def msgChecksUptoRow : OpenClaim := { program := "ytihhfdkcggnjpaa", sum := "6d800c8a3494d17f2d709c599f618c4b79a52a209656fe5f7325f80e2cccb65d", func := "chatelaine/chatelainelaw10.MsgChecks", spec := "msgChecks", unfollowed := true, recurses := true, apart := false, narrowed := true }
def MsgChecksUptoSaid : Prop := msgChecksUptoRow.holds Try.pinned (OpenSpec.upto msgChecksSpec)

/-- 'chatelainelaw10.MsgBack', WHERE WHAT IT READS IS OF BULK AT MOST 1048576: true; the input reads as it did. -/
def msgBackUptoRow : OpenClaim := { program := "ytihhfdkcggnjpaa", sum := "6d800c8a3494d17f2d709c599f618c4b79a52a209656fe5f7325f80e2cccb65d", func := "chatelaine/chatelainelaw10.MsgBack", spec := "msgBack", unfollowed := true, recurses := true, apart := false, narrowed := true }
def MsgBackUptoSaid : Prop := msgBackUptoRow.holds Try.pinned (OpenSpec.upto msgBackSpec)

/-- 'chatelainelaw10.MsgParses', WHERE WHAT IT READS IS OF BULK AT MOST 1048576: true; the input reads as it did. -/
def msgParsesUptoRow : OpenClaim := { program := "ytihhfdkcggnjpaa", sum := "6d800c8a3494d17f2d709c599f618c4b79a52a209656fe5f7325f80e2cccb65d", func := "chatelaine/chatelainelaw10.MsgParses", spec := "msgParses", unfollowed := true, recurses := true, apart := false, narrowed := true }
def MsgParsesUptoSaid : Prop := msgParsesUptoRow.holds Try.pinned (OpenSpec.upto msgParsesSpec)

/-- 'chatelainelaw16.AcceptPlays', WHERE WHAT IT READS IS OF BULK AT MOST 1048576: true; the input reads as it did. -/
def acceptPlaysUptoRow : OpenClaim := { program := "ytihhfdkcggnjpaa", sum := "6d800c8a3494d17f2d709c599f618c4b79a52a209656fe5f7325f80e2cccb65d", func := "chatelaine/chatelainelaw16.AcceptPlays", spec := "acceptPlays", inPlace := ["slices.overlaps[chatelaine/msg.Entry]"], unfollowed := true, recurses := true, apart := false, narrowed := true }
def AcceptPlaysUptoSaid : Prop := acceptPlaysUptoRow.holds Try.pinned (OpenSpec.upto acceptPlaysSpec)

/-- 'chatelainelaw16.AcceptBytes', WHERE WHAT IT READS IS OF BULK AT MOST 1048576: true; the input reads as it did. -/
def acceptBytesUptoRow : OpenClaim := { program := "ytihhfdkcggnjpaa", sum := "6d800c8a3494d17f2d709c599f618c4b79a52a209656fe5f7325f80e2cccb65d", func := "chatelaine/chatelainelaw16.AcceptBytes", spec := "acceptBytes", inPlace := ["slices.overlaps[chatelaine/msg.Entry]"], unfollowed := true, recurses := true, apart := false, narrowed := true }
def AcceptBytesUptoSaid : Prop := acceptBytesUptoRow.holds Try.pinned (OpenSpec.upto acceptBytesSpec)

/-- 'chatelainelaw20.LeaseLong', WHERE WHAT IT READS IS OF BULK AT MOST 1048576: true; the input reads as it did. -/
def leaseLongUptoRow : OpenClaim := { program := "ytihhfdkcggnjpaa", sum := "6d800c8a3494d17f2d709c599f618c4b79a52a209656fe5f7325f80e2cccb65d", func := "chatelaine/chatelainelaw20.LeaseLong", spec := "leaseLong", apart := false, narrowed := true }
def LeaseLongUptoSaid : Prop := leaseLongUptoRow.holds Try.pinned (OpenSpec.upto leaseLongSpec)

end Rows
end Go.Proofs.Ytihhfdkcggnjpaa
