import Derived.Test.YtnanclgnjchpeaaF07j
import Derived.WalkKit
import Derived.ProofKit
import Derived.LoopTactic
import Derived.Outline
import Derived.WalkSpells
import Derived.WalkLawsBesides
import Derived.Lib.Hide
import Derived.Deep.LoopGhost
import Derived.Deep.QuietTactic
import Derived.BigQuiet
import Derived.ShutString
import Derived.IntWalk
namespace Go.Proofs.Ytnanclgnjchpeaa
open Go.ChangeShapes Go.WideShapes Go.ChangeAt Go.RowKit
open Grids
set_option linter.unusedVariables false
theorem snoc_all {Q : Nat → Prop} {N k : Nat} (h : ∀ j, N ≤ j → j < k → Q j) (hk : Q k) : ∀ j, N ≤ j → j < k + 1 → Q j := by
  intro j h1 h2
  rcases Nat.lt_or_ge j k with h3 | h3
  · exact h j h1 h3
  · obtain rfl : j = k := by omega
    exact hk
theorem shape_cases (R P : Int) (W : Nat) (z1 n1 z2 n2 : Int) :
    ∃ f1 f2 f3 f4 g1 g2 g3 g4 : Bool, decide (1 ≤ R ∧ R ≤ 4) = f1 ∧ decide (1 ≤ P ∧ P ≤ 4) = f2 ∧ decide (R * P ≤ 12) = f3 ∧ decide (W / 2 ^ (R * P).toNat = 0) = f4 ∧
      decide (1 ≤ z1 ∧ z1 ≤ R) = g1 ∧ decide (1 ≤ z2 ∧ z2 ≤ R) = g2 ∧ decide (1 ≤ n1 ∧ n1 ≤ P) = g3 ∧ decide (1 ≤ n2 ∧ n2 ≤ P) = g4 ∧ decide (Form R P W z1 n1 z2 n2) = (f1 && (f2 && (f3 && (g1 && (g2 && (g3 && (g4 && f4))))))) := by
  refine ⟨_, _, _, _, _, _, _, _, rfl, rfl, rfl, rfl, rfl, rfl, rfl, rfl, ?_⟩
  rw [Bool.eq_iff_iff, decide_eq_true_eq]
  simp only [decide_eq_true_eq, Bool.and_eq_true]
  unfold Form
  constructor
  · rintro ⟨h1, h2, h3, h4, ⟨h5, h6⟩, h7, h8⟩; exact ⟨h1, h2, h3, h5, h7, h6, h8, h4⟩
  · rintro ⟨h1, h2, h3, h5, h7, h6, h8, h4⟩; exact ⟨h1, h2, h3, h4, ⟨h5, h6⟩, h7, h8⟩
end Go.Proofs.Ytnanclgnjchpeaa
