import Derived.Test.YtgbicckclepplaaL04c
import Derived.Test.YtgbicckclepplaaL04d
import Derived.WalkKit
import Derived.ProofKit
import Derived.LoopTactic
import Derived.Outline
import Derived.WalkSpells
import Derived.WalkLawsBesides
import Derived.Lib.Hide
import Derived.Deep.LoopGhost
import Derived.Deep.QuietTactic
import Derived.BigQuiet
import Derived.ShutString
namespace Go.Proofs.Ytgbicckclepplaa
open Go.ChangeShapes Go.WideShapes Go.ChangeAt Go.RowKit
theorem driftRises_walk (P Q T A B : Int) (w : World) :
    Calls Try.prog 6 #[.agg #[.int .i64 P, .int .i64 Q, .int .i64 T, .int .i64 A, .int .i64 B]] w fun e w' => e = .returned (.bool true) ∧ Gr w w' := by
  cases h : (max 0 (min T 274877906944) == 0)
  · exact driftRises_false P Q T A B w h
  · exact driftRises_true P Q T A B w h
end Go.Proofs.Ytgbicckclepplaa
