import Derived.Test.YtnanclgnjchpeaaF07k
import Derived.WalkKit
import Derived.ProofKit
import Derived.LoopTactic
import Derived.Outline
import Derived.WalkSpells
import Derived.WalkLawsBesides
import Derived.Lib.Hide
import Derived.Deep.LoopGhost
import Derived.Deep.QuietTactic
import Derived.BigQuiet
import Derived.ShutString
import Derived.IntWalk
import Derived.Deep.RegionHeld3
namespace Go.Proofs.Ytnanclgnjchpeaa
open Go.ChangeShapes Go.WideShapes Go.ChangeAt Go.RowKit
open Grids
set_option linter.unusedVariables false
set_option linter.unusedSimpArgs false
theorem good_bad {r p W z1 n1 z2 n2 a : Nat} (ha : a < 2 ^ (r * p)) (h1 : isQ r p z1 n1 a = true) (h2 : isQ r p z2 n2 (restOr (r * p) a W) = true) : meetsB r p W z1 n1 z2 n2 = false := by
  cases h : meetsB r p W z1 n1 z2 n2
  · rfl
  · have := good_of_meets (meets_of h) a ha h1
    rw [h2] at this; cases this
end Go.Proofs.Ytnanclgnjchpeaa
