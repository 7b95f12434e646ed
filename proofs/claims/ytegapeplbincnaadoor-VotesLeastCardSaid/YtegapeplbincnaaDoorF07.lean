import Derived.Test.YtegapeplbincnaaDoorC00
import Derived.Test.YtegapeplbincnaaDoorM07
import Derived.WalkKit
import Derived.ProofKit
import Derived.LoopTactic
import Derived.Outline
import Derived.WalkSpells
import Derived.WalkLawsBesides
import Derived.Lib.Hide
import Derived.Deep.LoopGhost
import Derived.Deep.QuietTactic
import Derived.BigQuiet
import Derived.ShutString
import Derived.IntWalk
import Derived.Lib.Tables
import Derived.Laws.Bits64b
namespace Go.Proofs.YtegapeplbincnaaDoor
open Go.ChangeShapes Go.WideShapes Go.ChangeAt Go.RowKit
open Grids
set_option linter.unusedVariables false
theorem upTo_any (n m : Int) (w : World) :
    Calls Tryd.prog 45 #[.int .i64 n, .int .i64 m] w fun e w' => e = .returned (.bool (decide (1 ≤ n ∧ n ≤ m))) ∧ w = w' := by
  have hc : n < 1 ∧ decide (1 ≤ n ∧ n ≤ m) = false ∨ 1 ≤ n ∧ n ≤ m ∧ decide (1 ≤ n ∧ n ≤ m) = true ∨ 1 ≤ n ∧ m < n ∧ decide (1 ≤ n ∧ n ≤ m) = false := by
    simp only [decide_eq_false_iff_not, decide_eq_true_eq]; omega
  rcases hc with ⟨h1, h2⟩ | ⟨h1, h3, h2⟩ | ⟨h1, h3, h2⟩
  all_goals
    rw [h2]; clear h2
    go_enter Tryd.func45, Tryd.ntmps45
    go_wp2
    go_ret
    exact ⟨by first | rfl | (simp <;> omega), rfl⟩
theorem apart_any (a b n f : Int) (w : World) (ha : 0 ≤ a ∧ a ≤ 1000) (hb : 0 ≤ b ∧ b ≤ 1000) (hn : 0 ≤ n ∧ n ≤ 1000) (hf : 0 ≤ f ∧ f ≤ 1000) :
    Calls Tryd.prog 49 #[.int .i64 a, .int .i64 b, .int .i64 n, .int .i64 f] w fun e w' => e = .returned (.bool (decide (a + b ≤ n + f))) ∧ w = w' := by
  obtain ⟨a1, a2⟩ := ha
  obtain ⟨b1, b2⟩ := hb
  obtain ⟨n1, n2⟩ := hn
  obtain ⟨f1, f2⟩ := hf
  go_enter Tryd.func49, Tryd.ntmps49
  go_wp2
  go_ret
  exact ⟨rfl, rfl⟩
theorem between_any (n l h : Int) (w : World) :
    Calls Tryd.prog 50 #[.int .i64 n, .int .i64 l, .int .i64 h] w fun e w' => e = .returned (.bool (decide (l ≤ n ∧ n ≤ h))) ∧ w = w' := by
  have hc : n < l ∧ decide (l ≤ n ∧ n ≤ h) = false ∨ l ≤ n ∧ n ≤ h ∧ decide (l ≤ n ∧ n ≤ h) = true ∨ l ≤ n ∧ h < n ∧ decide (l ≤ n ∧ n ≤ h) = false := by
    simp only [decide_eq_false_iff_not, decide_eq_true_eq]; omega
  rcases hc with ⟨h1, h2⟩ | ⟨h1, h3, h2⟩ | ⟨h1, h3, h2⟩
  all_goals
    rw [h2]; clear h2
    go_enter Tryd.func50, Tryd.ntmps50
    go_wp2
    go_ret
    exact ⟨by first | rfl | (simp <;> omega), rfl⟩
theorem u2 (x : Nat) : (x : Int) / 2 = ((x / 2 : Nat) : Int) := rfl
theorem has_any (x n : Nat) (w : World) (hx : x < 4294967296) (hn : n ≤ 1000) :
    Calls Tryd.prog 9 #[.int .u32 x, .int .i64 n] w fun e w' => e = .returned (.bool (x.testBit n)) ∧ w = w' := by
  obtain ⟨b, hb⟩ : ∃ b, Hid (x.testBit n = b) := ⟨_, Lib.hid rfl⟩
  rw [hb.out]
  go_enter Tryd.func9, Tryd.ntmps9
  go_wp2
  go_loop [0, 5] (fun a i => ∃ k : Nat, k ≤ n ∧ i = .int .i64 k ∧ a = .int .u32 ((x / 2 ^ k : Nat) : Int)) (fun _ i => n - (intOf i).toNat)
  case atStart => exact ⟨0, by omega, rfl, by simp⟩
  case round =>
    obtain ⟨k, hk, rfl, rfl⟩ := hrel
    have hle : x / 2 ^ k ≤ x := Nat.div_le_self _ _
    have E : Hid (x / 2 ^ k / 2 = x / 2 ^ (k + 1)) := Lib.hid (by rw [Nat.pow_succ, Nat.div_div_eq_div_mul])
    have B : Hid (decide (x / 2 ^ k % 2 = 1) = x.testBit k) := Lib.hid (by rw [Nat.testBit_eq_decide_div_mod_eq])
    generalize x / 2 ^ k = y at *
    by_cases hlt : k < n
    · go_wp2
      go_round
      case rel => exact ⟨k + 1, by omega, by go_num, by rw [← E.out]; rfl⟩
      case measure => simp [intOf]; omega
    · obtain rfl : k = n := by omega
      go_wp2
      go_ret
      refine ⟨?_, rfl⟩
      rw [← hb.out, ← B.out]
      congr 2
      show Value.bool ((y : Int) % 2 == 1) = Value.bool (decide (y % 2 = 1))
      congr 1
      rw [Bool.eq_iff_iff]
      simp
      omega
theorem hasKind_any (R P W z1 n1 z2 n2 z n : Int) (w : World) :
    Calls Tryd.prog 46 #[.agg #[.int .i64 R, .int .i64 P, .int .u32 W, .int .i64 z1, .int .i64 n1, .int .i64 z2, .int .i64 n2], .agg #[.int .i64 z, .int .i64 n]] w fun e w' => e = .returned (.bool (decide (1 ≤ z ∧ z ≤ R) && decide (1 ≤ n ∧ n ≤ P))) ∧ Gr w w' := by
  have c1 := Lib.hid (upTo_any z R)
  have c2 := Lib.hid (upTo_any n P)
  generalize decide (1 ≤ z ∧ z ≤ R) = a at *
  generalize decide (1 ≤ n ∧ n ≤ P) = b at *
  cases a
  · go_enter Tryd.func46, Tryd.ntmps46
    go_wp2_with fail
    refine (c1.out _).mono ?_
    rintro e w1 ⟨rfl, rfl⟩
    go_wp2
    go_ret
    exact ⟨rfl, ((Gr.refl _).alloc _).alloc _⟩
  · go_enter Tryd.func46, Tryd.ntmps46
    go_wp2_with fail
    refine (c1.out _).mono ?_
    rintro e w1 ⟨rfl, rfl⟩
    go_wp2_with fail
    refine (c2.out _).mono ?_
    rintro e w1 ⟨rfl, rfl⟩
    go_wp2
    go_ret
    exact ⟨rfl, ((Gr.refl _).alloc _).alloc _⟩
end Go.Proofs.YtegapeplbincnaaDoor
