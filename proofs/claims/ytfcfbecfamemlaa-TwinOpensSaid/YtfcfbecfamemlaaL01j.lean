import Derived.Test.YtfcfbecfamemlaaL01i
import Derived.WalkKit
import Derived.ProofKit
import Derived.LoopTactic
import Derived.Outline
import Derived.WalkSpells
import Derived.WalkLawsBesides
import Derived.Lib.Hide
import Derived.Deep.LoopGhost
import Derived.Deep.QuietTactic
import Derived.BigQuiet
import Derived.ShutString
import Derived.Deep.RegionWith
import Derived.Deep.RegionHeld3
namespace Go.Proofs.Ytfcfbecfamemlaa
open Go.ChangeShapes Go.WideShapes Go.ChangeAt Go.RowKit
set_option linter.unusedVariables false
set_option linter.unusedSimpArgs false
theorem rtake_is {r a c : ByteArray} {e n b : Nat} (h : takeS r e n = (a, b, c)) (w : World) (hr : r.size ≤ 1000000) (hn : n ≤ 9223372036854775807) :
    Calls Try.prog 87 #[.agg #[.string r, .int .i64 (e : Int)], .int .i64 (n : Int)] w fun en w' => en = .returned (.tuple #[.agg #[.string a, .int .i64 (b : Int)], .string c]) ∧ Gr w w' := by
  have := refTake_any r e n w hr hn
  unfold RTakeIs at this
  rwa [h] at this
def RBIs (r : ByteArray) (e : Nat) (w : World) (en : Ending) (w' : World) : Prop :=
  en = .returned (.tuple #[.agg #[.string (bS r e).1, .int .i64 ((bS r e).2.1 : Nat)], .bool (bS r e).2.2]) ∧ Gr w w'
theorem rbIs_mk {r a : ByteArray} {e b : Nat} {c : Bool} {w w' : World} (h : Hid (bS r e = (a, b, c))) (hg : Gr w w') : RBIs r e w (.returned (.tuple #[.agg #[.string a, .int .i64 (b : Int)], .bool c])) w' := by
  unfold RBIs; rw [h.out]; exact ⟨rfl, hg⟩
end Go.Proofs.Ytfcfbecfamemlaa
