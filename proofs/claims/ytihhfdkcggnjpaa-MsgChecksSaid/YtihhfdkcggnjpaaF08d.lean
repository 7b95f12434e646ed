import Derived.Test.YtihhfdkcggnjpaaF08c
import Derived.WalkKit
import Derived.ProofKit
import Derived.LoopTactic
import Derived.Outline
import Derived.WalkSpells
import Derived.WalkLawsBesides
import Derived.Lib.Hide
import Derived.Deep.LoopGhost
import Derived.Deep.QuietTactic
import Derived.BigQuiet
import Derived.ShutString
import Derived.IntWalk
namespace Go.Proofs.Ytihhfdkcggnjpaa
open Go.ChangeShapes Go.WideShapes Go.ChangeAt Go.RowKit
open Bal
set_option linter.unusedVariables false
set_option linter.unusedSimpArgs false
theorem above_to {c n d m : Int} {b : Bool} (h : above c n d m = b) (w : World) :
    Calls Try.prog 186 #[.agg #[.int .u64 c, .int .i64 n], .agg #[.int .u64 d, .int .i64 m]] w fun e w' => e = .returned (.bool b) ∧ Gr w w' := by rw [← h]; exact above_any c n d m w
def RNext (c m n : Int) (w : World) (e : Ending) (w' : World) : Prop := e = .returned (.tuple #[.agg #[.int .u64 (nextB c m n).1.1, .int .i64 (nextB c m n).1.2], .int .i64 (nextB c m n).2]) ∧ Gr w w'
theorem rnext_mk {c m n x y z : Int} {w w' : World} {e : Ending} (h : Hid (nextB c m n = ((x, y), z))) (he : e = .returned (.tuple #[.agg #[.int .u64 x, .int .i64 y], .int .i64 z])) (hg : Gr w w') : RNext c m n w e w' := by
  unfold RNext; rw [h.out]; exact ⟨he, hg⟩
end Go.Proofs.Ytihhfdkcggnjpaa
