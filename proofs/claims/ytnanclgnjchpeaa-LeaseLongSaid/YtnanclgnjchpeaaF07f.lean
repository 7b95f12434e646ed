import Derived.Test.YtnanclgnjchpeaaF07e
import Derived.WalkKit
import Derived.ProofKit
import Derived.LoopTactic
import Derived.Outline
import Derived.WalkSpells
import Derived.WalkLawsBesides
import Derived.Lib.Hide
import Derived.Deep.LoopGhost
import Derived.Deep.QuietTactic
import Derived.BigQuiet
import Derived.ShutString
import Derived.IntWalk
import Derived.Deep.RegionHeld3
namespace Go.Proofs.Ytnanclgnjchpeaa
open Go.ChangeShapes Go.WideShapes Go.ChangeAt Go.RowKit
open Grids
set_option linter.unusedVariables false
set_option linter.unusedSimpArgs false
/-- What Check answers for a configuration. -/
def ChkIs (R P W z1 n1 z2 n2 c : Int) : Prop := ∀ w : World, Calls Try.prog 197 #[.agg #[.int .i64 R, .int .i64 P, .int .u32 W, .int .i64 z1, .int .i64 n1, .int .i64 z2, .int .i64 n2]] w fun e w' => e = .returned (.int .i64 c) ∧ Gr w w'
def LenIs (R P W z1 n1 z2 n2 L : Int) : Prop := ∀ w : World, Calls Try.prog 193 #[.agg #[.int .i64 R, .int .i64 P, .int .u32 W, .int .i64 z1, .int .i64 n1, .int .i64 z2, .int .i64 n2]] w fun e w' => e = .returned (.int .i64 L) ∧ Gr w w'
def HasIs (R P W z1 n1 z2 n2 n : Int) (q : Bool) : Prop := ∀ w : World, Calls Try.prog 188 #[.agg #[.int .i64 R, .int .i64 P, .int .u32 W, .int .i64 z1, .int .i64 n1, .int .i64 z2, .int .i64 n2], .int .i64 n] w fun e w' => e = .returned (.bool q) ∧ Gr w w'
def AllIs (R P W z1 n1 z2 n2 A : Int) : Prop := ∀ w : World, Calls Try.prog 222 #[.agg #[.int .i64 R, .int .i64 P, .int .u32 W, .int .i64 z1, .int .i64 n1, .int .i64 z2, .int .i64 n2]] w fun e w' => e = .returned (.int .u32 A) ∧ Gr w w'
theorem len_bad {R P W z1 n1 z2 n2 : Int} (h : ChkIs R P W z1 n1 z2 n2 12) : LenIs R P W z1 n1 z2 n2 0 := by
  intro w
  have c1 := Lib.hid h
  clear h
  go_enter Try.func193, Try.ntmps193
  go_wp2_with fail
  refine (c1.out _).mono ?_
  rintro e w1 ⟨rfl, hg⟩
  go_wp2
  go_ret
  exact ⟨rfl, ((Gr.refl _).alloc _).trans hg⟩
theorem len_ok {R P W z1 n1 z2 n2 : Int} (h : ChkIs R P W z1 n1 z2 n2 0) (h1 : 0 ≤ R * P) (h2 : R * P ≤ 16) : LenIs R P W z1 n1 z2 n2 (R * P) := by
  intro w
  have c1 := Lib.hid h
  clear h
  go_enter Try.func193, Try.ntmps193
  go_wp2_with fail
  refine (c1.out _).mono ?_
  rintro e w1 ⟨rfl, hg⟩
  have k0 := hg.own.1 0 _ rfl
  have k1 := hg.own.1 1 _ rfl
  have HG := Lib.hid hg
  clear hg
  go_wp2
  go_ret
  exact ⟨rfl, ((Gr.refl _).alloc _).trans HG.out⟩
theorem has2_any {R P W z1 n1 z2 n2 L : Int} (n : Int) (h : LenIs R P W z1 n1 z2 n2 L) : HasIs R P W z1 n1 z2 n2 n (decide (0 ≤ n ∧ n < L)) := by
  intro w
  have c1 := Lib.hid h
  clear h
  have hc : n < 0 ∧ decide (0 ≤ n ∧ n < L) = false ∨ 0 ≤ n ∧ n < L ∧ decide (0 ≤ n ∧ n < L) = true ∨ 0 ≤ n ∧ L ≤ n ∧ decide (0 ≤ n ∧ n < L) = false := by
    simp only [decide_eq_false_iff_not, decide_eq_true_eq]; omega
  rcases hc with ⟨h1, h2⟩ | ⟨h1, h3, h2⟩ | ⟨h1, h3, h2⟩
  · rw [h2]; clear h2
    go_enter Try.func188, Try.ntmps188
    go_wp2
    go_ret
    exact ⟨by first | rfl | (simp <;> omega), (Gr.refl _).alloc _⟩
  all_goals
    rw [h2]; clear h2
    go_enter Try.func188, Try.ntmps188
    go_wp2_with fail
    refine (c1.out _).mono ?_
    rintro e w1 ⟨rfl, hg⟩
    go_wp2
    go_ret
    exact ⟨by first | rfl | (simp <;> omega), ((Gr.refl _).alloc _).trans hg⟩
theorem all_val {L : Nat} (h : L ≤ 16) : ((2 : Int) ^ L % 4294967296 - 1) % 4294967296 = ((2 ^ L - 1 : Nat) : Int) := by
  have : L < 17 := by omega
  revert L
  intro L h h2
  have key : ∀ i : Fin 17, ((2 : Int) ^ i.val % 4294967296 - 1) % 4294967296 = ((2 ^ i.val - 1 : Nat) : Int) := by decide +kernel
  exact key ⟨L, h2⟩
end Go.Proofs.Ytnanclgnjchpeaa
