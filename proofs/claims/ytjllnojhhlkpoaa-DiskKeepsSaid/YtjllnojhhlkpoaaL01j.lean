import Derived.Test.YtjllnojhhlkpoaaL01i
import Derived.WalkKit
import Derived.ProofKit
import Derived.LoopTactic
import Derived.Outline
import Derived.WalkSpells
import Derived.WalkLawsBesides
import Derived.Lib.Hide
import Derived.Deep.LoopGhost
import Derived.Deep.QuietTactic
import Derived.BigQuiet
import Derived.ShutString
import Derived.Deep.RegionWith
import Derived.Deep.RegionHeld3
namespace Go.Proofs.Ytjllnojhhlkpoaa
open Go.ChangeShapes Go.WideShapes Go.ChangeAt Go.RowKit
set_option linter.unusedVariables false
set_option linter.unusedSimpArgs false
def RBIs (r : ByteArray) (e : Nat) (w : World) (en : Ending) (w' : World) : Prop :=
  en = .returned (.tuple #[.agg #[.string (bS r e).1, .int .i64 ((bS r e).2.1 : Nat)], .bool (bS r e).2.2]) ∧ Gr w w'
theorem rbIs_mk {r a : ByteArray} {e b : Nat} {c : Bool} {w w' : World} (h : Hid (bS r e = (a, b, c))) (hg : Gr w w') : RBIs r e w (.returned (.tuple #[.agg #[.string a, .int .i64 (b : Int)], .bool c])) w' := by
  unfold RBIs; rw [h.out]; exact ⟨rfl, hg⟩
end Go.Proofs.Ytjllnojhhlkpoaa
