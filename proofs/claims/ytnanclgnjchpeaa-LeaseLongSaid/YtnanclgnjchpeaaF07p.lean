import Derived.Test.YtnanclgnjchpeaaC18
import Derived.Test.YtnanclgnjchpeaaF07
import Derived.WalkKit
import Derived.ProofKit
import Derived.LoopTactic
import Derived.Outline
import Derived.WalkSpells
import Derived.WalkLawsBesides
import Derived.Lib.Hide
import Derived.Deep.LoopGhost
import Derived.Deep.QuietTactic
import Derived.BigQuiet
import Derived.ShutString
import Derived.IntWalk
import Derived.Laws.AppendOwn
import Derived.Shelf.Spec.TrailingZeros
namespace Go.Proofs.Ytnanclgnjchpeaa
open Go.ChangeShapes Go.WideShapes Go.ChangeAt Go.RowKit
open Grids
set_option linter.unusedVariables false
set_option linter.unusedSimpArgs false
end Go.Proofs.Ytnanclgnjchpeaa
