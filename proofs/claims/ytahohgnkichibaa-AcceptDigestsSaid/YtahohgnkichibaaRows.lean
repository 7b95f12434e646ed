/-
  No cell of these rows narrows 'for every input' (looked for: loops, veiled, ifaces, maps, wideKeys, modest, calm, conditions, laid).
  DERIVED. THE GIVEN ROWS OF THIS SEAT. 9 by the template 'for every input the law returns true; each argument reads behind the call as it read before'; 0 by the template 'total and deterministic' (their statements: YtahohgnkichibaaTotals.lean).
  GIVEN WITH THE SEED: the statements are not yours to turn. If you find one false, say at which input.
  Laid BY PROGRAM, IN A SANDBOX (cutbox-rows.mjs): the forced cells as the released guide's own fill.sh prints them over the translation 00b0803bb17d32f6… (all of the seat's roots in one cut). By AI agents, Wed Nov 11 2026. No macro, syntax, notation, axiom, sorry.
-/
import Derived.Test.YtahohgnkichibaaChecked
import GoSem.Claim
import GoSem.ClaimJoined
import GoSem.ClaimMapViews
import Derived.JoinedTies
import Derived.KernelRfl
namespace Go.Proofs.Ytahohgnkichibaa
/- THE CELL 'sum', in the pinned program and in every row, IS THE sha256 OF THE DUMP (.gsa) THAT YtahohgnkichibaaProg.lean LOADS. Nothing in Lean hashes anything: it is a label: what it is worth is what the hold of that sum in a sandbox is worth. -/
noncomputable def Try.pinned : Pinned := { name := "ytahohgnkichibaa", sum := "00b0803bb17d32f6753d60fb50d66b2db134b1ebb8d748241eb7e1f9a1b94a5e", checked := Try.checked }
namespace Rows
def none {H : Type} : Left H := { results := [], args := [] }

/-- 'chatelainelaw15.ClockAlarms': WHATEVER THE INPUT: true; the input reads as it did. -/
def clockAlarmsSpec : ChangeSpec := { name := "clockAlarms", fn := fun _ => fun
  | [d1, d2] => { results := [.lit (.bool true)], args := [d1, d2] }
  | _ => none }
def clockAlarmsRow : OpenClaim := { program := "ytahohgnkichibaa", sum := "00b0803bb17d32f6753d60fb50d66b2db134b1ebb8d748241eb7e1f9a1b94a5e", func := "chatelaine/chatelainelaw15.ClockAlarms", spec := "clockAlarms", inPlace := ["slices.overlaps[chatelaine/clock.Alarm]"], unfollowed := true, recurses := true, apart := false }
def ClockAlarmsSaid : Prop := clockAlarmsRow.holds Try.pinned (OpenSpec.ofChange clockAlarmsSpec)

/-- ITS FALSE NEIGHBOUR: 'it returns false'. Refute it at one input. -/
def clockAlarmsWrong : ChangeSpec := { name := "clockAlarms", fn := fun _ => fun
  | [d1, d2] => { results := [.lit (.bool false)], args := [d1, d2] }
  | _ => none }
def ClockAlarmsWrongFalsely : Prop := clockAlarmsRow.holds Try.pinned (OpenSpec.ofChange clockAlarmsWrong)

/-- 'chatelainelaw15.ClockGoes': WHATEVER THE INPUT: true; the input reads as it did. -/
def clockGoesSpec : ChangeSpec := { name := "clockGoes", fn := fun _ => fun
  | [d] => { results := [.lit (.bool true)], args := [d] }
  | _ => none }
def clockGoesRow : OpenClaim := { program := "ytahohgnkichibaa", sum := "00b0803bb17d32f6753d60fb50d66b2db134b1ebb8d748241eb7e1f9a1b94a5e", func := "chatelaine/chatelainelaw15.ClockGoes", spec := "clockGoes", inPlace := ["slices.overlaps[chatelaine/clock.Alarm]"], unfollowed := true, recurses := true, apart := false }
def ClockGoesSaid : Prop := clockGoesRow.holds Try.pinned (OpenSpec.ofChange clockGoesSpec)

/-- ITS FALSE NEIGHBOUR: 'it returns false'. Refute it at one input. -/
def clockGoesWrong : ChangeSpec := { name := "clockGoes", fn := fun _ => fun
  | [d] => { results := [.lit (.bool false)], args := [d] }
  | _ => none }
def ClockGoesWrongFalsely : Prop := clockGoesRow.holds Try.pinned (OpenSpec.ofChange clockGoesWrong)

/-- 'chatelainelaw15.ClockWaits': WHATEVER THE INPUT: true; the input reads as it did. -/
def clockWaitsSpec : ChangeSpec := { name := "clockWaits", fn := fun _ => fun
  | [d1, d2, d3] => { results := [.lit (.bool true)], args := [d1, d2, d3] }
  | _ => none }
def clockWaitsRow : OpenClaim := { program := "ytahohgnkichibaa", sum := "00b0803bb17d32f6753d60fb50d66b2db134b1ebb8d748241eb7e1f9a1b94a5e", func := "chatelaine/chatelainelaw15.ClockWaits", spec := "clockWaits", inPlace := ["slices.overlaps[chatelaine/clock.Alarm]"], unfollowed := true, recurses := true, apart := false }
def ClockWaitsSaid : Prop := clockWaitsRow.holds Try.pinned (OpenSpec.ofChange clockWaitsSpec)

/-- ITS FALSE NEIGHBOUR: 'it returns false'. Refute it at one input. -/
def clockWaitsWrong : ChangeSpec := { name := "clockWaits", fn := fun _ => fun
  | [d1, d2, d3] => { results := [.lit (.bool false)], args := [d1, d2, d3] }
  | _ => none }
def ClockWaitsWrongFalsely : Prop := clockWaitsRow.holds Try.pinned (OpenSpec.ofChange clockWaitsWrong)

/-- 'chatelainelaw16.AcceptPlays': WHATEVER THE INPUT: true; the input reads as it did. -/
def acceptPlaysSpec : ChangeSpec := { name := "acceptPlays", fn := fun _ => fun
  | [d1, d2] => { results := [.lit (.bool true)], args := [d1, d2] }
  | _ => none }
def acceptPlaysRow : OpenClaim := { program := "ytahohgnkichibaa", sum := "00b0803bb17d32f6753d60fb50d66b2db134b1ebb8d748241eb7e1f9a1b94a5e", func := "chatelaine/chatelainelaw16.AcceptPlays", spec := "acceptPlays", inPlace := ["slices.overlaps[chatelaine/msg.Entry]"], unfollowed := true, recurses := true, apart := false }
def AcceptPlaysSaid : Prop := acceptPlaysRow.holds Try.pinned (OpenSpec.ofChange acceptPlaysSpec)

/-- ITS FALSE NEIGHBOUR: 'it returns false'. Refute it at one input. -/
def acceptPlaysWrong : ChangeSpec := { name := "acceptPlays", fn := fun _ => fun
  | [d1, d2] => { results := [.lit (.bool false)], args := [d1, d2] }
  | _ => none }
def AcceptPlaysWrongFalsely : Prop := acceptPlaysRow.holds Try.pinned (OpenSpec.ofChange acceptPlaysWrong)

/-- 'chatelainelaw16.AcceptKeeps': WHATEVER THE INPUT: true; the input reads as it did. -/
def acceptKeepsSpec : ChangeSpec := { name := "acceptKeeps", fn := fun _ => fun
  | [d1, d2] => { results := [.lit (.bool true)], args := [d1, d2] }
  | _ => none }
def acceptKeepsRow : OpenClaim := { program := "ytahohgnkichibaa", sum := "00b0803bb17d32f6753d60fb50d66b2db134b1ebb8d748241eb7e1f9a1b94a5e", func := "chatelaine/chatelainelaw16.AcceptKeeps", spec := "acceptKeeps", inPlace := ["slices.overlaps[chatelaine/msg.Entry]"], unfollowed := true, recurses := true, apart := false }
def AcceptKeepsSaid : Prop := acceptKeepsRow.holds Try.pinned (OpenSpec.ofChange acceptKeepsSpec)

/-- ITS FALSE NEIGHBOUR: 'it returns false'. Refute it at one input. -/
def acceptKeepsWrong : ChangeSpec := { name := "acceptKeeps", fn := fun _ => fun
  | [d1, d2] => { results := [.lit (.bool false)], args := [d1, d2] }
  | _ => none }
def AcceptKeepsWrongFalsely : Prop := acceptKeepsRow.holds Try.pinned (OpenSpec.ofChange acceptKeepsWrong)

/-- 'chatelainelaw16.AcceptBytes': WHATEVER THE INPUT: true; the input reads as it did. -/
def acceptBytesSpec : ChangeSpec := { name := "acceptBytes", fn := fun _ => fun
  | [d1, d2, d3] => { results := [.lit (.bool true)], args := [d1, d2, d3] }
  | _ => none }
def acceptBytesRow : OpenClaim := { program := "ytahohgnkichibaa", sum := "00b0803bb17d32f6753d60fb50d66b2db134b1ebb8d748241eb7e1f9a1b94a5e", func := "chatelaine/chatelainelaw16.AcceptBytes", spec := "acceptBytes", inPlace := ["slices.overlaps[chatelaine/msg.Entry]"], unfollowed := true, recurses := true, apart := false }
def AcceptBytesSaid : Prop := acceptBytesRow.holds Try.pinned (OpenSpec.ofChange acceptBytesSpec)

/-- ITS FALSE NEIGHBOUR: 'it returns false'. Refute it at one input. -/
def acceptBytesWrong : ChangeSpec := { name := "acceptBytes", fn := fun _ => fun
  | [d1, d2, d3] => { results := [.lit (.bool false)], args := [d1, d2, d3] }
  | _ => none }
def AcceptBytesWrongFalsely : Prop := acceptBytesRow.holds Try.pinned (OpenSpec.ofChange acceptBytesWrong)

/-- 'chatelainelaw16.AcceptFull': WHATEVER THE INPUT: true; the input reads as it did. -/
def acceptFullSpec : ChangeSpec := { name := "acceptFull", fn := fun _ => fun
  | [d1, d2, d3] => { results := [.lit (.bool true)], args := [d1, d2, d3] }
  | _ => none }
def acceptFullRow : OpenClaim := { program := "ytahohgnkichibaa", sum := "00b0803bb17d32f6753d60fb50d66b2db134b1ebb8d748241eb7e1f9a1b94a5e", func := "chatelaine/chatelainelaw16.AcceptFull", spec := "acceptFull", inPlace := ["slices.overlaps[chatelaine/msg.Entry]"], unfollowed := true, recurses := true, apart := false }
def AcceptFullSaid : Prop := acceptFullRow.holds Try.pinned (OpenSpec.ofChange acceptFullSpec)

/-- ITS FALSE NEIGHBOUR: 'it returns false'. Refute it at one input. -/
def acceptFullWrong : ChangeSpec := { name := "acceptFull", fn := fun _ => fun
  | [d1, d2, d3] => { results := [.lit (.bool false)], args := [d1, d2, d3] }
  | _ => none }
def AcceptFullWrongFalsely : Prop := acceptFullRow.holds Try.pinned (OpenSpec.ofChange acceptFullWrong)

/-- 'chatelainelaw16.AcceptDigests': WHATEVER THE INPUT: true; the input reads as it did. -/
def acceptDigestsSpec : ChangeSpec := { name := "acceptDigests", fn := fun _ => fun
  | [d1, d2] => { results := [.lit (.bool true)], args := [d1, d2] }
  | _ => none }
def acceptDigestsRow : OpenClaim := { program := "ytahohgnkichibaa", sum := "00b0803bb17d32f6753d60fb50d66b2db134b1ebb8d748241eb7e1f9a1b94a5e", func := "chatelaine/chatelainelaw16.AcceptDigests", spec := "acceptDigests", inPlace := ["slices.overlaps[chatelaine/msg.Entry]"], unfollowed := true, recurses := true, apart := false }
def AcceptDigestsSaid : Prop := acceptDigestsRow.holds Try.pinned (OpenSpec.ofChange acceptDigestsSpec)

/-- ITS FALSE NEIGHBOUR: 'it returns false'. Refute it at one input. -/
def acceptDigestsWrong : ChangeSpec := { name := "acceptDigests", fn := fun _ => fun
  | [d1, d2] => { results := [.lit (.bool false)], args := [d1, d2] }
  | _ => none }
def AcceptDigestsWrongFalsely : Prop := acceptDigestsRow.holds Try.pinned (OpenSpec.ofChange acceptDigestsWrong)

/-- 'chatelainetop.ChatelaineGrants': WHATEVER THE INPUT: true; the input reads as it did. -/
def chatelaineGrantsSpec : ChangeSpec := { name := "chatelaineGrants", fn := fun _ => fun
  | [d] => { results := [.lit (.bool true)], args := [d] }
  | _ => none }
def chatelaineGrantsRow : OpenClaim := { program := "ytahohgnkichibaa", sum := "00b0803bb17d32f6753d60fb50d66b2db134b1ebb8d748241eb7e1f9a1b94a5e", func := "chatelaine/chatelainetop.ChatelaineGrants", spec := "chatelaineGrants", inPlace := ["slices.overlaps[chatelaine/msg.Entry]"], unfollowed := true, recurses := true, apart := false }
def ChatelaineGrantsSaid : Prop := chatelaineGrantsRow.holds Try.pinned (OpenSpec.ofChange chatelaineGrantsSpec)

/-- ITS FALSE NEIGHBOUR: 'it returns false'. Refute it at one input. -/
def chatelaineGrantsWrong : ChangeSpec := { name := "chatelaineGrants", fn := fun _ => fun
  | [d] => { results := [.lit (.bool false)], args := [d] }
  | _ => none }
def ChatelaineGrantsWrongFalsely : Prop := chatelaineGrantsRow.holds Try.pinned (OpenSpec.ofChange chatelaineGrantsWrong)

/- THE SECOND FORM. 'bulk': how many values and letters a reading holds, each counted each time it is reached (what is shared counts as often as it is met; a slice's spare places count too). A statement '..UptoSaid' is the law's where the arguments, and the package variables that the reading takes, are together of bulk at most 1048576: NARROWER than '..Said'. Prove '..Said' where nothing that the law and all that it calls make is longer than what came in: it says more and counts as full. Else prove '..UptoSaid'. A law counts once. -/
mutual
def uptoBulk {H : Type} : DataW H → Nat
  | .lit (.string bytes) => bytes.length + 1
  | .lit _ => 1
  | .nil => 1
  | .ptr d => uptoBulk d + 1
  | .slice elems spare => uptoBulkAll elems + uptoBulkAll spare + 1
  | .agg parts => uptoBulkAll parts + 1
  | .iface _ d => uptoBulk d + 1
  | .map entries => uptoBulkEntries entries + 1
  | .held _ => 1
def uptoBulkAll {H : Type} : List (DataW H) → Nat
  | [] => 0
  | d :: r => uptoBulk d + uptoBulkAll r
def uptoBulkEntries {H : Type} : List (Lit × DataW H) → Nat
  | [] => 0
  | x :: r => uptoBulkEntry x + uptoBulkEntries r
def uptoBulkEntry {H : Type} : Lit × DataW H → Nat
  | (.string bytes, d) => bytes.length + uptoBulk d + 1
  | (_, d) => uptoBulk d + 1
 end
def uptoSmall : (H : Type) → List (DataW H) → Bool := fun _ ds => decide (uptoBulkAll ds ≤ 1048576)
def OpenSpec.upto (s : _root_.Go.ChangeSpec) : _root_.Go.OpenSpec := { _root_.Go.OpenSpec.ofChange s with cond := some uptoSmall }

/-- 'chatelainelaw15.ClockAlarms', WHERE WHAT IT READS IS OF BULK AT MOST 1048576: true; the input reads as it did. -/
def clockAlarmsUptoRow : OpenClaim := { program := "ytahohgnkichibaa", sum := "00b0803bb17d32f6753d60fb50d66b2db134b1ebb8d748241eb7e1f9a1b94a5e", func := "chatelaine/chatelainelaw15.ClockAlarms", spec := "clockAlarms", inPlace := ["slices.overlaps[chatelaine/clock.Alarm]"], unfollowed := true, recurses := true, apart := false, narrowed := true }
def ClockAlarmsUptoSaid : Prop := clockAlarmsUptoRow.holds Try.pinned (OpenSpec.upto clockAlarmsSpec)

/-- 'chatelainelaw15.ClockGoes', WHERE WHAT IT READS IS OF BULK AT MOST 1048576: true; the input reads as it did. -/
def clockGoesUptoRow : OpenClaim := { program := "ytahohgnkichibaa", sum := "00b0803bb17d32f6753d60fb50d66b2db134b1ebb8d748241eb7e1f9a1b94a5e", func := "chatelaine/chatelainelaw15.ClockGoes", spec := "clockGoes", inPlace := ["slices.overlaps[chatelaine/clock.Alarm]"], unfollowed := true, recurses := true, apart := false, narrowed := true }
def ClockGoesUptoSaid : Prop := clockGoesUptoRow.holds Try.pinned (OpenSpec.upto clockGoesSpec)

/-- 'chatelainelaw15.ClockWaits', WHERE WHAT IT READS IS OF BULK AT MOST 1048576: true; the input reads as it did. -/
def clockWaitsUptoRow : OpenClaim := { program := "ytahohgnkichibaa", sum := "00b0803bb17d32f6753d60fb50d66b2db134b1ebb8d748241eb7e1f9a1b94a5e", func := "chatelaine/chatelainelaw15.ClockWaits", spec := "clockWaits", inPlace := ["slices.overlaps[chatelaine/clock.Alarm]"], unfollowed := true, recurses := true, apart := false, narrowed := true }
def ClockWaitsUptoSaid : Prop := clockWaitsUptoRow.holds Try.pinned (OpenSpec.upto clockWaitsSpec)

/-- 'chatelainelaw16.AcceptPlays', WHERE WHAT IT READS IS OF BULK AT MOST 1048576: true; the input reads as it did. -/
def acceptPlaysUptoRow : OpenClaim := { program := "ytahohgnkichibaa", sum := "00b0803bb17d32f6753d60fb50d66b2db134b1ebb8d748241eb7e1f9a1b94a5e", func := "chatelaine/chatelainelaw16.AcceptPlays", spec := "acceptPlays", inPlace := ["slices.overlaps[chatelaine/msg.Entry]"], unfollowed := true, recurses := true, apart := false, narrowed := true }
def AcceptPlaysUptoSaid : Prop := acceptPlaysUptoRow.holds Try.pinned (OpenSpec.upto acceptPlaysSpec)

/-- 'chatelainelaw16.AcceptKeeps', WHERE WHAT IT READS IS OF BULK AT MOST 1048576: true; the input reads as it did. -/
def acceptKeepsUptoRow : OpenClaim := { program := "ytahohgnkichibaa", sum := "00b0803bb17d32f6753d60fb50d66b2db134b1ebb8d748241eb7e1f9a1b94a5e", func := "chatelaine/chatelainelaw16.AcceptKeeps", spec := "acceptKeeps", inPlace := ["slices.overlaps[chatelaine/msg.Entry]"], unfollowed := true, recurses := true, apart := false, narrowed := true }
def AcceptKeepsUptoSaid : Prop := acceptKeepsUptoRow.holds Try.pinned (OpenSpec.upto acceptKeepsSpec)

/-- 'chatelainelaw16.AcceptBytes', WHERE WHAT IT READS IS OF BULK AT MOST 1048576: true; the input reads as it did. -/
def acceptBytesUptoRow : OpenClaim := { program := "ytahohgnkichibaa", sum := "00b0803bb17d32f6753d60fb50d66b2db134b1ebb8d748241eb7e1f9a1b94a5e", func := "chatelaine/chatelainelaw16.AcceptBytes", spec := "acceptBytes", inPlace := ["slices.overlaps[chatelaine/msg.Entry]"], unfollowed := true, recurses := true, apart := false, narrowed := true }
def AcceptBytesUptoSaid : Prop := acceptBytesUptoRow.holds Try.pinned (OpenSpec.upto acceptBytesSpec)

/-- 'chatelainelaw16.AcceptFull', WHERE WHAT IT READS IS OF BULK AT MOST 1048576: true; the input reads as it did. -/
def acceptFullUptoRow : OpenClaim := { program := "ytahohgnkichibaa", sum := "00b0803bb17d32f6753d60fb50d66b2db134b1ebb8d748241eb7e1f9a1b94a5e", func := "chatelaine/chatelainelaw16.AcceptFull", spec := "acceptFull", inPlace := ["slices.overlaps[chatelaine/msg.Entry]"], unfollowed := true, recurses := true, apart := false, narrowed := true }
def AcceptFullUptoSaid : Prop := acceptFullUptoRow.holds Try.pinned (OpenSpec.upto acceptFullSpec)

/-- 'chatelainelaw16.AcceptDigests', WHERE WHAT IT READS IS OF BULK AT MOST 1048576: true; the input reads as it did. -/
def acceptDigestsUptoRow : OpenClaim := { program := "ytahohgnkichibaa", sum := "00b0803bb17d32f6753d60fb50d66b2db134b1ebb8d748241eb7e1f9a1b94a5e", func := "chatelaine/chatelainelaw16.AcceptDigests", spec := "acceptDigests", inPlace := ["slices.overlaps[chatelaine/msg.Entry]"], unfollowed := true, recurses := true, apart := false, narrowed := true }
def AcceptDigestsUptoSaid : Prop := acceptDigestsUptoRow.holds Try.pinned (OpenSpec.upto acceptDigestsSpec)

/-- 'chatelainetop.ChatelaineGrants', WHERE WHAT IT READS IS OF BULK AT MOST 1048576: true; the input reads as it did. -/
def chatelaineGrantsUptoRow : OpenClaim := { program := "ytahohgnkichibaa", sum := "00b0803bb17d32f6753d60fb50d66b2db134b1ebb8d748241eb7e1f9a1b94a5e", func := "chatelaine/chatelainetop.ChatelaineGrants", spec := "chatelaineGrants", inPlace := ["slices.overlaps[chatelaine/msg.Entry]"], unfollowed := true, recurses := true, apart := false, narrowed := true }
def ChatelaineGrantsUptoSaid : Prop := chatelaineGrantsUptoRow.holds Try.pinned (OpenSpec.upto chatelaineGrantsSpec)

end Rows
end Go.Proofs.Ytahohgnkichibaa
