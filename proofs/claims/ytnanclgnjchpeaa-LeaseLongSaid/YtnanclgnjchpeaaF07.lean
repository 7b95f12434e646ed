import Derived.Test.YtnanclgnjchpeaaC00
import Derived.Test.YtnanclgnjchpeaaM07
import Derived.WalkKit
import Derived.ProofKit
import Derived.LoopTactic
import Derived.Outline
import Derived.WalkSpells
import Derived.WalkLawsBesides
import Derived.Lib.Hide
import Derived.Deep.LoopGhost
import Derived.Deep.QuietTactic
import Derived.BigQuiet
import Derived.ShutString
import Derived.IntWalk
import Derived.Lib.Tables
import Derived.Laws.Bits64b
namespace Go.Proofs.Ytnanclgnjchpeaa
open Go.ChangeShapes Go.WideShapes Go.ChangeAt Go.RowKit
open Grids
set_option linter.unusedVariables false
theorem upTo_any (n m : Int) (w : World) :
    Calls Try.prog 203 #[.int .i64 n, .int .i64 m] w fun e w' => e = .returned (.bool (decide (1 ≤ n ∧ n ≤ m))) ∧ w = w' := by
  have hc : n < 1 ∧ decide (1 ≤ n ∧ n ≤ m) = false ∨ 1 ≤ n ∧ n ≤ m ∧ decide (1 ≤ n ∧ n ≤ m) = true ∨ 1 ≤ n ∧ m < n ∧ decide (1 ≤ n ∧ n ≤ m) = false := by
    simp only [decide_eq_false_iff_not, decide_eq_true_eq]; omega
  rcases hc with ⟨h1, h2⟩ | ⟨h1, h3, h2⟩ | ⟨h1, h3, h2⟩
  all_goals
    rw [h2]; clear h2
    go_enter Try.func203, Try.ntmps203
    go_wp2
    go_ret
    exact ⟨by first | rfl | (simp <;> omega), rfl⟩
theorem apart_any (a b n f : Int) (w : World) (ha : 0 ≤ a ∧ a ≤ 1000) (hb : 0 ≤ b ∧ b ≤ 1000) (hn : 0 ≤ n ∧ n ≤ 1000) (hf : 0 ≤ f ∧ f ≤ 1000) :
    Calls Try.prog 205 #[.int .i64 a, .int .i64 b, .int .i64 n, .int .i64 f] w fun e w' => e = .returned (.bool (decide (a + b ≤ n + f))) ∧ w = w' := by
  obtain ⟨a1, a2⟩ := ha
  obtain ⟨b1, b2⟩ := hb
  obtain ⟨n1, n2⟩ := hn
  obtain ⟨f1, f2⟩ := hf
  go_enter Try.func205, Try.ntmps205
  go_wp2
  go_ret
  exact ⟨rfl, rfl⟩
theorem u2 (x : Nat) : (x : Int) / 2 = ((x / 2 : Nat) : Int) := rfl
theorem hasKind_any (R P W z1 n1 z2 n2 z n : Int) (w : World) :
    Calls Try.prog 204 #[.agg #[.int .i64 R, .int .i64 P, .int .u32 W, .int .i64 z1, .int .i64 n1, .int .i64 z2, .int .i64 n2], .agg #[.int .i64 z, .int .i64 n]] w fun e w' => e = .returned (.bool (decide (1 ≤ z ∧ z ≤ R) && decide (1 ≤ n ∧ n ≤ P))) ∧ Gr w w' := by
  have c1 := Lib.hid (upTo_any z R)
  have c2 := Lib.hid (upTo_any n P)
  generalize decide (1 ≤ z ∧ z ≤ R) = a at *
  generalize decide (1 ≤ n ∧ n ≤ P) = b at *
  cases a
  · go_enter Try.func204, Try.ntmps204
    go_wp2_with fail
    refine (c1.out _).mono ?_
    rintro e w1 ⟨rfl, rfl⟩
    go_wp2
    go_ret
    exact ⟨rfl, ((Gr.refl _).alloc _).alloc _⟩
  · go_enter Try.func204, Try.ntmps204
    go_wp2_with fail
    refine (c1.out _).mono ?_
    rintro e w1 ⟨rfl, rfl⟩
    go_wp2_with fail
    refine (c2.out _).mono ?_
    rintro e w1 ⟨rfl, rfl⟩
    go_wp2
    go_ret
    exact ⟨rfl, ((Gr.refl _).alloc _).alloc _⟩
end Go.Proofs.Ytnanclgnjchpeaa
