import Derived.Test.YtjllnojhhlkpoaaL01g
import Derived.WalkKit
import Derived.ProofKit
import Derived.LoopTactic
import Derived.Outline
import Derived.WalkSpells
import Derived.WalkLawsBesides
import Derived.Lib.Hide
import Derived.Deep.LoopGhost
import Derived.Deep.QuietTactic
import Derived.BigQuiet
import Derived.ShutString
import Derived.Deep.RegionWith
import Derived.Deep.RegionHeld3
namespace Go.Proofs.Ytjllnojhhlkpoaa
open Go.ChangeShapes Go.WideShapes Go.ChangeAt Go.RowKit
set_option linter.unusedVariables false
/-- A cursor of the reference, as a value. -/
def curV (r : ByteArray) (e : Nat) : Value := .agg #[.string r, .int .i64 (e : Int)]
def RTakeIs (r : ByteArray) (e n : Nat) (w : World) (en : Ending) (w' : World) : Prop :=
  en = .returned (.tuple #[.agg #[.string (takeS r e n).1, .int .i64 ((takeS r e n).2.1 : Nat)], .string (takeS r e n).2.2]) ∧ Gr w w'
theorem rtakeIs_mk {r a c : ByteArray} {e n b : Nat} {w w' : World} (h : Hid (takeS r e n = (a, b, c))) (hg : Gr w w') : RTakeIs r e n w (.returned (.tuple #[.agg #[.string a, .int .i64 (b : Int)], .string c])) w' := by
  unfold RTakeIs; rw [h.out]; exact ⟨rfl, hg⟩
end Go.Proofs.Ytjllnojhhlkpoaa
