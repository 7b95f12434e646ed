import Derived.Test.YtihhfdkcggnjpaaK2
import Derived.WalkKit
import Derived.ProofKit
import Derived.LoopTactic
import Derived.Outline
import Derived.WalkSpells
import Derived.WalkLawsBesides
import Derived.Lib.Hide
import Derived.Deep.LoopGhost
import Derived.Deep.QuietTactic
import Derived.BigQuiet
import Derived.ShutString
import Derived.Deep.RegionWith
import Derived.Deep.RegionHeld3
namespace Go.Proofs.Ytihhfdkcggnjpaa
open Go.ChangeShapes Go.WideShapes Go.ChangeAt Go.RowKit
set_option linter.unusedVariables false
set_option linter.unusedSimpArgs false
theorem isEmpty_of {r : ByteArray} (h : 0 < r.size) : r.toList.isEmpty = false := by
  cases e : r.toList with
  | cons _ _ => rfl
  | nil =>
    exfalso
    have h2 : r.toList.length = r.size := by rw [ByteArray.toList_eq]; exact Array.length_toList
    rw [e] at h2; simp at h2; omega
end Go.Proofs.Ytihhfdkcggnjpaa
