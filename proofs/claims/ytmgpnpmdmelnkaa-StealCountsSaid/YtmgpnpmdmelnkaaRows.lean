/-
  No cell of these rows narrows 'for every input' (looked for: loops, veiled, ifaces, maps, wideKeys, modest, calm, conditions, laid).
  DERIVED. THE GIVEN ROWS OF THIS SEAT. 4 by the template 'for every input the law returns true; each argument reads behind the call as it read before'; 0 by the template 'total and deterministic' (their statements: YtmgpnpmdmelnkaaTotals.lean).
  GIVEN WITH THE SEED: the statements are not yours to turn. If you find one false, say at which input.
  Laid BY PROGRAM, IN A SANDBOX (cutbox-rows.mjs): the forced cells as the released guide's own fill.sh prints them over the translation 73135873968b8c12… (all of the seat's roots in one cut). By AI agents, Wed Nov 11 2026. No macro, syntax, notation, axiom, sorry.
-/
import Derived.Test.YtmgpnpmdmelnkaaChecked
import GoSem.Claim
import GoSem.ClaimJoined
import GoSem.ClaimMapViews
import Derived.JoinedTies
import Derived.KernelRfl
namespace Go.Proofs.Ytmgpnpmdmelnkaa
/- THE CELL 'sum', in the pinned program and in every row, IS THE sha256 OF THE DUMP (.gsa) THAT YtmgpnpmdmelnkaaProg.lean LOADS. Nothing in Lean hashes anything: it is a label: what it is worth is what the hold of that sum in a sandbox is worth. -/
noncomputable def Try.pinned : Pinned := { name := "ytmgpnpmdmelnkaa", sum := "73135873968b8c12c38e62e75f715e332d5fbb4f4b88b2c3fedf52edfcff4b50", checked := Try.checked }
namespace Rows
def none {H : Type} : Left H := { results := [], args := [] }

/-- 'chatelainelaw21.StealChecks': WHATEVER THE INPUT: true; the input reads as it did. -/
def stealChecksSpec : ChangeSpec := { name := "stealChecks", fn := fun _ => fun
  | [d1, d2] => { results := [.lit (.bool true)], args := [d1, d2] }
  | _ => none }
def stealChecksRow : OpenClaim := { program := "ytmgpnpmdmelnkaa", sum := "73135873968b8c12c38e62e75f715e332d5fbb4f4b88b2c3fedf52edfcff4b50", func := "chatelaine/chatelainelaw21.StealChecks", spec := "stealChecks", apart := false }
def StealChecksSaid : Prop := stealChecksRow.holds Try.pinned (OpenSpec.ofChange stealChecksSpec)

/-- ITS FALSE NEIGHBOUR: 'it returns false'. Refute it at one input. -/
def stealChecksWrong : ChangeSpec := { name := "stealChecks", fn := fun _ => fun
  | [d1, d2] => { results := [.lit (.bool false)], args := [d1, d2] }
  | _ => none }
def StealChecksWrongFalsely : Prop := stealChecksRow.holds Try.pinned (OpenSpec.ofChange stealChecksWrong)

/-- 'chatelainelaw21.StealCounts': WHATEVER THE INPUT: true; the input reads as it did. -/
def stealCountsSpec : ChangeSpec := { name := "stealCounts", fn := fun _ => fun
  | [d1, d2, d3] => { results := [.lit (.bool true)], args := [d1, d2, d3] }
  | _ => none }
def stealCountsRow : OpenClaim := { program := "ytmgpnpmdmelnkaa", sum := "73135873968b8c12c38e62e75f715e332d5fbb4f4b88b2c3fedf52edfcff4b50", func := "chatelaine/chatelainelaw21.StealCounts", spec := "stealCounts", apart := false }
def StealCountsSaid : Prop := stealCountsRow.holds Try.pinned (OpenSpec.ofChange stealCountsSpec)

/-- ITS FALSE NEIGHBOUR: 'it returns false'. Refute it at one input. -/
def stealCountsWrong : ChangeSpec := { name := "stealCounts", fn := fun _ => fun
  | [d1, d2, d3] => { results := [.lit (.bool false)], args := [d1, d2, d3] }
  | _ => none }
def StealCountsWrongFalsely : Prop := stealCountsRow.holds Try.pinned (OpenSpec.ofChange stealCountsWrong)

/-- 'chatelainelaw21.StealGives': WHATEVER THE INPUT: true; the input reads as it did. -/
def stealGivesSpec : ChangeSpec := { name := "stealGives", fn := fun _ => fun
  | [d1, d2, d3] => { results := [.lit (.bool true)], args := [d1, d2, d3] }
  | _ => none }
def stealGivesRow : OpenClaim := { program := "ytmgpnpmdmelnkaa", sum := "73135873968b8c12c38e62e75f715e332d5fbb4f4b88b2c3fedf52edfcff4b50", func := "chatelaine/chatelainelaw21.StealGives", spec := "stealGives", apart := false }
def StealGivesSaid : Prop := stealGivesRow.holds Try.pinned (OpenSpec.ofChange stealGivesSpec)

/-- ITS FALSE NEIGHBOUR: 'it returns false'. Refute it at one input. -/
def stealGivesWrong : ChangeSpec := { name := "stealGives", fn := fun _ => fun
  | [d1, d2, d3] => { results := [.lit (.bool false)], args := [d1, d2, d3] }
  | _ => none }
def StealGivesWrongFalsely : Prop := stealGivesRow.holds Try.pinned (OpenSpec.ofChange stealGivesWrong)

/-- 'chatelainetop.ChatelaineBusy': WHATEVER THE INPUT: true; the input reads as it did. -/
def chatelaineBusySpec : ChangeSpec := { name := "chatelaineBusy", fn := fun _ => fun
  | [d] => { results := [.lit (.bool true)], args := [d] }
  | _ => none }
def chatelaineBusyRow : OpenClaim := { program := "ytmgpnpmdmelnkaa", sum := "73135873968b8c12c38e62e75f715e332d5fbb4f4b88b2c3fedf52edfcff4b50", func := "chatelaine/chatelainetop.ChatelaineBusy", spec := "chatelaineBusy", apart := false }
def ChatelaineBusySaid : Prop := chatelaineBusyRow.holds Try.pinned (OpenSpec.ofChange chatelaineBusySpec)

/-- ITS FALSE NEIGHBOUR: 'it returns false'. Refute it at one input. -/
def chatelaineBusyWrong : ChangeSpec := { name := "chatelaineBusy", fn := fun _ => fun
  | [d] => { results := [.lit (.bool false)], args := [d] }
  | _ => none }
def ChatelaineBusyWrongFalsely : Prop := chatelaineBusyRow.holds Try.pinned (OpenSpec.ofChange chatelaineBusyWrong)

/- THE SECOND FORM. 'bulk': how many values and letters a reading holds, each counted each time it is reached (what is shared counts as often as it is met; a slice's spare places count too). A statement '..UptoSaid' is the law's where the arguments, and the package variables that the reading takes, are together of bulk at most 1048576: NARROWER than '..Said'. Prove '..Said' where nothing that the law and all that it calls make is longer than what came in: it says more and counts as full. Else prove '..UptoSaid'. A law counts once. -/
mutual
def uptoBulk {H : Type} : DataW H → Nat
  | .lit (.string bytes) => bytes.length + 1
  | .lit _ => 1
  | .nil => 1
  | .ptr d => uptoBulk d + 1
  | .slice elems spare => uptoBulkAll elems + uptoBulkAll spare + 1
  | .agg parts => uptoBulkAll parts + 1
  | .iface _ d => uptoBulk d + 1
  | .map entries => uptoBulkEntries entries + 1
  | .held _ => 1
def uptoBulkAll {H : Type} : List (DataW H) → Nat
  | [] => 0
  | d :: r => uptoBulk d + uptoBulkAll r
def uptoBulkEntries {H : Type} : List (Lit × DataW H) → Nat
  | [] => 0
  | x :: r => uptoBulkEntry x + uptoBulkEntries r
def uptoBulkEntry {H : Type} : Lit × DataW H → Nat
  | (.string bytes, d) => bytes.length + uptoBulk d + 1
  | (_, d) => uptoBulk d + 1
 end
def uptoSmall : (H : Type) → List (DataW H) → Bool := fun _ ds => decide (uptoBulkAll ds ≤ 1048576)
def OpenSpec.upto (s : _root_.Go.ChangeSpec) : _root_.Go.OpenSpec := { _root_.Go.OpenSpec.ofChange s with cond := some uptoSmall }

/-- 'chatelainelaw21.StealChecks', WHERE WHAT IT READS IS OF BULK AT MOST 1048576: true; the input reads as it did. -/
def stealChecksUptoRow : OpenClaim := { program := "ytmgpnpmdmelnkaa", sum := "73135873968b8c12c38e62e75f715e332d5fbb4f4b88b2c3fedf52edfcff4b50", func := "chatelaine/chatelainelaw21.StealChecks", spec := "stealChecks", apart := false, narrowed := true }
def StealChecksUptoSaid : Prop := stealChecksUptoRow.holds Try.pinned (OpenSpec.upto stealChecksSpec)

/-- 'chatelainelaw21.StealCounts', WHERE WHAT IT READS IS OF BULK AT MOST 1048576: true; the input reads as it did. -/
def stealCountsUptoRow : OpenClaim := { program := "ytmgpnpmdmelnkaa", sum := "73135873968b8c12c38e62e75f715e332d5fbb4f4b88b2c3fedf52edfcff4b50", func := "chatelaine/chatelainelaw21.StealCounts", spec := "stealCounts", apart := false, narrowed := true }
def StealCountsUptoSaid : Prop := stealCountsUptoRow.holds Try.pinned (OpenSpec.upto stealCountsSpec)

/-- 'chatelainelaw21.StealGives', WHERE WHAT IT READS IS OF BULK AT MOST 1048576: true; the input reads as it did. -/
def stealGivesUptoRow : OpenClaim := { program := "ytmgpnpmdmelnkaa", sum := "73135873968b8c12c38e62e75f715e332d5fbb4f4b88b2c3fedf52edfcff4b50", func := "chatelaine/chatelainelaw21.StealGives", spec := "stealGives", apart := false, narrowed := true }
def StealGivesUptoSaid : Prop := stealGivesUptoRow.holds Try.pinned (OpenSpec.upto stealGivesSpec)

/-- 'chatelainetop.ChatelaineBusy', WHERE WHAT IT READS IS OF BULK AT MOST 1048576: true; the input reads as it did. -/
def chatelaineBusyUptoRow : OpenClaim := { program := "ytmgpnpmdmelnkaa", sum := "73135873968b8c12c38e62e75f715e332d5fbb4f4b88b2c3fedf52edfcff4b50", func := "chatelaine/chatelainetop.ChatelaineBusy", spec := "chatelaineBusy", apart := false, narrowed := true }
def ChatelaineBusyUptoSaid : Prop := chatelaineBusyUptoRow.holds Try.pinned (OpenSpec.upto chatelaineBusySpec)

end Rows
end Go.Proofs.Ytmgpnpmdmelnkaa
