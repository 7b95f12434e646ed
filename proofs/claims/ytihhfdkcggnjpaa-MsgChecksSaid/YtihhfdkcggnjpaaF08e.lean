import Derived.Test.YtihhfdkcggnjpaaF08d
import Derived.WalkKit
import Derived.ProofKit
import Derived.LoopTactic
import Derived.Outline
import Derived.WalkSpells
import Derived.WalkLawsBesides
import Derived.Lib.Hide
import Derived.Deep.LoopGhost
import Derived.Deep.QuietTactic
import Derived.BigQuiet
import Derived.ShutString
import Derived.IntWalk
import Derived.OpenShut
namespace Go.Proofs.Ytihhfdkcggnjpaa
open Go.ChangeShapes Go.WideShapes Go.ChangeAt Go.RowKit
open Bal
set_option linter.unusedVariables false
set_option linter.unusedSimpArgs false
theorem next_to {c m n x y z : Int} (h : nextB c m n = ((x, y), z)) (hc : 0 ≤ c ∧ c ≤ 18446744073709551615) (w : World) :
    Calls Try.prog 24 #[.agg #[.int .u64 c, .int .i64 m], .int .i64 n] w fun e w' => e = .returned (.tuple #[.agg #[.int .u64 x, .int .i64 y], .int .i64 z]) ∧ Gr w w' := by
  have := next_any c m n w hc
  rw [h] at this; exact this
theorem next_good {c m n x y : Int} (hc : 0 ≤ c) (h0 : c = 0 → m = 0) (h : nextB c m n = ((x, y), 0)) : y = n ∧ 0 < x ∧ 0 < cmpB x n c m := by
  rcases nextB_plain (n := n) hc h0 with ⟨_, e⟩ | ⟨_, e⟩ | ⟨h1, h2, h3, h4, e⟩ | ⟨_, _, _, _, e⟩ | ⟨h1, h2, h3, h4, e⟩ <;> rw [e] at h <;> simp only [Prod.mk.injEq] at h
  · omega
  · omega
  · obtain ⟨⟨rfl, rfl⟩, _⟩ := h
    refine ⟨rfl, by omega, ?_⟩
    rcases cmpB_ways c n c m with ⟨g, e2⟩ | ⟨g, e2⟩ | ⟨g, e2⟩ <;> rw [e2] <;> omega
  · omega
  · obtain ⟨⟨rfl, rfl⟩, _⟩ := h
    refine ⟨rfl, by omega, ?_⟩
    rcases cmpB_ways (c + 1) n c m with ⟨g, e2⟩ | ⟨g, e2⟩ | ⟨g, e2⟩ <;> rw [e2] <;> omega
/-- Behind two stores into one block. -/
theorem put2 {w W : World} {b : Nat} {u0 u1 v0 v1 : Value} (k0 : w.cell? ⟨b, 0, none⟩ = some u0) (k1 : w.cell? ⟨b, 1, none⟩ = some u1) (hW : W = ((w.setCell ⟨b, 0, none⟩ v0).setCell ⟨b, 1, none⟩ v1)) :
    (W.cell? ⟨b, 0, none⟩ = some v0 ∧ W.cell? ⟨b, 1, none⟩ = some v1) ∧ (∀ d o x, d ≠ b → w.cell? ⟨d, o, none⟩ = some x → W.cell? ⟨d, o, none⟩ = some x) ∧ (∀ d o, W.frozen? ⟨d, o, none⟩ = w.frozen? ⟨d, o, none⟩) ∧ (∀ a, Gr a w → a.heap.size ≤ b → Gr a W) := by
  subst hW
  refine ⟨⟨by simp [go_sem, k0], by simp [go_sem, k1]⟩, fun d o x hd hx => ?_, fun d o => by simp only [World.frozen?_setCell], fun a h hb => (h.setCell hb _).setCell hb _⟩
  simp [go_sem, hx]
end Go.Proofs.Ytihhfdkcggnjpaa
