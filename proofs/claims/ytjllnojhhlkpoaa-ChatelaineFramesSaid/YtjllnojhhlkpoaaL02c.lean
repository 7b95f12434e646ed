import Derived.Test.YtjllnojhhlkpoaaF02h
import Derived.Test.YtjllnojhhlkpoaaC01
import Derived.Test.YtjllnojhhlkpoaaL02b
import Derived.WalkKit
import Derived.ProofKit
import Derived.LoopTactic
import Derived.Outline
import Derived.WalkSpells
import Derived.WalkLawsBesides
import Derived.Lib.Hide
import Derived.Deep.LoopGhost
import Derived.Deep.QuietTactic
import Derived.BigQuiet
import Derived.ShutString
namespace Go.Proofs.Ytjllnojhhlkpoaa
open Go.ChangeShapes Go.WideShapes Go.ChangeAt Go.RowKit
open Crc
set_option linter.unusedVariables false
theorem partCells_at (L : List (Nat × ByteArray)) (i : Nat) (h : i < L.length) : (partCells L)[i * 2]? = some (.int .u8 L[i].1) ∧ (partCells L)[i * 2 + 1]? = some (.string L[i].2) := by
  induction L generalizing i with
  | nil => simp at h
  | cons p t ih =>
    have e : partCells (p :: t) = .int .u8 p.1 :: .string p.2 :: partCells t := rfl
    rw [e]
    cases i with
    | zero => simp
    | succ i =>
      have := ih i (by simpa using h)
      have e2 : (i + 1) * 2 = i * 2 + 1 + 1 := by omega
      rw [e2]
      simpa using this
theorem scanB_len (s : ByteArray) : ∀ f n, (scanB s f n).1.length ≤ f
  | 0, n => by simp [scanB]
  | f + 1, n => by
    rw [scanB]
    split
    · have := scanB_len s f (n + (openB (s.extract n s.size)).2.1.size + 8)
      simp; omega
    · simp
end Go.Proofs.Ytjllnojhhlkpoaa
