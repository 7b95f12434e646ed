import Derived.Test.YtnanclgnjchpeaaF07h
import Derived.Test.YtnanclgnjchpeaaM07c
import Derived.WalkKit
import Derived.ProofKit
import Derived.LoopTactic
import Derived.Outline
import Derived.WalkSpells
import Derived.WalkLawsBesides
import Derived.Lib.Hide
import Derived.Deep.LoopGhost
import Derived.Deep.QuietTactic
import Derived.BigQuiet
import Derived.ShutString
import Derived.IntWalk
namespace Go.Proofs.Ytnanclgnjchpeaa
open Go.ChangeShapes Go.WideShapes Go.ChangeAt Go.RowKit
open Grids
set_option linter.unusedVariables false
theorem mul_in {r p : Nat} (hn : r * p ≤ 12) : (0 : Int) ≤ (r : Int) * (p : Int) ∧ (r : Int) * (p : Int) ≤ 12 := by rw [← Int.natCast_mul]; omega
end Go.Proofs.Ytnanclgnjchpeaa
