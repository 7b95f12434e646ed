import Derived.Test.YtjllnojhhlkpoaaF02g
import Derived.WalkKit
import Derived.ProofKit
import Derived.LoopTactic
import Derived.Outline
import Derived.WalkSpells
import Derived.WalkLawsBesides
import Derived.Lib.Hide
import Derived.Deep.LoopGhost
import Derived.Deep.QuietTactic
import Derived.BigQuiet
import Derived.ShutString
namespace Go.Proofs.Ytjllnojhhlkpoaa
open Go.ChangeShapes Go.WideShapes Go.ChangeAt Go.RowKit
open Crc
set_option linter.unusedVariables false
theorem openB_ok8 (s : ByteArray) (n : Nat) (k : Nat) (t : ByteArray) (hn : n ≤ s.size) (h : openB (s.extract n s.size) = (k, t, 0)) : n + t.size + 8 ≤ s.size ∧ k < 256 ∧ 1 ≤ k := by
  have := openB_ok _ _ _ h
  simp at this
  omega
end Go.Proofs.Ytjllnojhhlkpoaa
