import Derived.Test.YtfpnglomemjniaaDoorM06b
import Derived.WalkKit
import Derived.ProofKit
import Derived.LoopTactic
import Derived.Outline
import Derived.WalkSpells
import Derived.WalkLawsBesides
import Derived.Lib.Hide
import Derived.Deep.LoopGhost
import Derived.Deep.QuietTactic
import Derived.BigQuiet
import Derived.ShutString
namespace Go.Proofs.YtfpnglomemjniaaDoor
open Go.ChangeShapes Go.WideShapes Go.ChangeAt Go.RowKit
set_option linter.unusedVariables false
set_option linter.unusedSimpArgs false
theorem clash_yes {L : List (List ByteArray)} {i k : Nat} (hi : i < L.length) (hk : k < L.length) (hne : i ≠ k) (ho : overP L[i] L[k] = true) : clash L = true := by
  cases h : clash L with
  | true => rfl
  | false =>
    have := clash_at h i k hi hk (by unfold lineP; rw [ho]; rfl)
    exact absurd this hne
theorem clash_no {L : List (List ByteArray)} (h : ∀ i (hi : i < L.length) k (hk : k < L.length), i ≠ k → overP L[i] L[k] = false) : clash L = false := by
  induction L with
  | nil => rfl
  | cons l t ih =>
    simp only [clash, Bool.or_eq_false_iff, List.any_eq_false]
    constructor
    · intro m hm
      obtain ⟨j, hj, rfl⟩ := List.getElem_of_mem hm
      have h1 := h 0 (by simp) (j + 1) (by simpa using hj) (by omega)
      have h2 := h (j + 1) (by simpa using hj) 0 (by simp) (by omega)
      simp only [List.getElem_cons_zero, List.getElem_cons_succ] at h1 h2
      unfold lineP; rw [h1, h2]; simp
    · apply ih
      intro i hi k hk hne
      have := h (i + 1) (by simpa using hi) (k + 1) (by simpa using hk) (by omega)
      simpa using this
end Go.Proofs.YtfpnglomemjniaaDoor
