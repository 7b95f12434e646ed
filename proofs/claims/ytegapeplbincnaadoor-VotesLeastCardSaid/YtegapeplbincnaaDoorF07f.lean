import Derived.Test.YtegapeplbincnaaDoorF07e
import Derived.WalkKit
import Derived.ProofKit
import Derived.LoopTactic
import Derived.Outline
import Derived.WalkSpells
import Derived.WalkLawsBesides
import Derived.Lib.Hide
import Derived.Deep.LoopGhost
import Derived.Deep.QuietTactic
import Derived.BigQuiet
import Derived.ShutString
import Derived.IntWalk
import Derived.Deep.RegionHeld3
namespace Go.Proofs.YtegapeplbincnaaDoor
open Go.ChangeShapes Go.WideShapes Go.ChangeAt Go.RowKit
open Grids
set_option linter.unusedVariables false
set_option linter.unusedSimpArgs false
/-- What Check answers for a configuration. -/
def ChkIs (R P W z1 n1 z2 n2 c : Int) : Prop := ∀ w : World, Calls Tryd.prog 21 #[.agg #[.int .i64 R, .int .i64 P, .int .u32 W, .int .i64 z1, .int .i64 n1, .int .i64 z2, .int .i64 n2]] w fun e w' => e = .returned (.int .i64 c) ∧ Gr w w'
def LenIs (R P W z1 n1 z2 n2 L : Int) : Prop := ∀ w : World, Calls Tryd.prog 22 #[.agg #[.int .i64 R, .int .i64 P, .int .u32 W, .int .i64 z1, .int .i64 n1, .int .i64 z2, .int .i64 n2]] w fun e w' => e = .returned (.int .i64 L) ∧ Gr w w'
def HasIs (R P W z1 n1 z2 n2 n : Int) (q : Bool) : Prop := ∀ w : World, Calls Tryd.prog 30 #[.agg #[.int .i64 R, .int .i64 P, .int .u32 W, .int .i64 z1, .int .i64 n1, .int .i64 z2, .int .i64 n2], .int .i64 n] w fun e w' => e = .returned (.bool q) ∧ Gr w w'
def AllIs (R P W z1 n1 z2 n2 A : Int) : Prop := ∀ w : World, Calls Tryd.prog 87 #[.agg #[.int .i64 R, .int .i64 P, .int .u32 W, .int .i64 z1, .int .i64 n1, .int .i64 z2, .int .i64 n2]] w fun e w' => e = .returned (.int .u32 A) ∧ Gr w w'
theorem len_bad {R P W z1 n1 z2 n2 : Int} (h : ChkIs R P W z1 n1 z2 n2 12) : LenIs R P W z1 n1 z2 n2 0 := by
  intro w
  have c1 := Lib.hid h
  clear h
  go_enter Tryd.func22, Tryd.ntmps22
  go_wp2_with fail
  refine (c1.out _).mono ?_
  rintro e w1 ⟨rfl, hg⟩
  go_wp2
  go_ret
  exact ⟨rfl, ((Gr.refl _).alloc _).trans hg⟩
theorem len_ok {R P W z1 n1 z2 n2 : Int} (h : ChkIs R P W z1 n1 z2 n2 0) (h1 : 0 ≤ R * P) (h2 : R * P ≤ 16) : LenIs R P W z1 n1 z2 n2 (R * P) := by
  intro w
  have c1 := Lib.hid h
  clear h
  go_enter Tryd.func22, Tryd.ntmps22
  go_wp2_with fail
  refine (c1.out _).mono ?_
  rintro e w1 ⟨rfl, hg⟩
  have k0 := hg.own.1 0 _ rfl
  have k1 := hg.own.1 1 _ rfl
  have HG := Lib.hid hg
  clear hg
  go_wp2
  go_ret
  exact ⟨rfl, ((Gr.refl _).alloc _).trans HG.out⟩
theorem has2_any {R P W z1 n1 z2 n2 L : Int} (n : Int) (h : LenIs R P W z1 n1 z2 n2 L) : HasIs R P W z1 n1 z2 n2 n (decide (0 ≤ n ∧ n < L)) := by
  intro w
  have c1 := Lib.hid h
  clear h
  have hc : n < 0 ∧ decide (0 ≤ n ∧ n < L) = false ∨ 0 ≤ n ∧ n < L ∧ decide (0 ≤ n ∧ n < L) = true ∨ 0 ≤ n ∧ L ≤ n ∧ decide (0 ≤ n ∧ n < L) = false := by
    simp only [decide_eq_false_iff_not, decide_eq_true_eq]; omega
  rcases hc with ⟨h1, h2⟩ | ⟨h1, h3, h2⟩ | ⟨h1, h3, h2⟩
  · rw [h2]; clear h2
    go_enter Tryd.func30, Tryd.ntmps30
    go_wp2
    go_ret
    exact ⟨by first | rfl | (simp <;> omega), (Gr.refl _).alloc _⟩
  all_goals
    rw [h2]; clear h2
    go_enter Tryd.func30, Tryd.ntmps30
    go_wp2_with fail
    refine (c1.out _).mono ?_
    rintro e w1 ⟨rfl, hg⟩
    go_wp2
    go_ret
    exact ⟨by first | rfl | (simp <;> omega), ((Gr.refl _).alloc _).trans hg⟩
theorem regionOf_no {R P W z1 n1 z2 n2 n : Int} (h : HasIs R P W z1 n1 z2 n2 n false) (w : World) :
    Calls Tryd.prog 33 #[.agg #[.int .i64 R, .int .i64 P, .int .u32 W, .int .i64 z1, .int .i64 n1, .int .i64 z2, .int .i64 n2], .int .i64 n] w fun e w' => e = .returned (.int .i64 (-1)) ∧ Gr w w' := by
  have c1 := Lib.hid h
  clear h
  go_enter Tryd.func33, Tryd.ntmps33
  go_wp2_with fail
  refine (c1.out _).mono ?_
  rintro e w1 ⟨rfl, hg⟩
  go_wp2
  go_ret
  exact ⟨rfl, ((Gr.refl _).alloc _).trans hg⟩
theorem regionOf_yes {R W z1 n1 z2 n2 : Int} (n p : Nat) (hp : 1 ≤ p ∧ p ≤ 4) (hn : n ≤ 16) (h : HasIs R p W z1 n1 z2 n2 n true) (w : World) :
    Calls Tryd.prog 33 #[.agg #[.int .i64 R, .int .i64 p, .int .u32 W, .int .i64 z1, .int .i64 n1, .int .i64 z2, .int .i64 n2], .int .i64 n] w fun e w' => e = .returned (.int .i64 (n / p : Nat)) ∧ Gr w w' := by
  have c1 := Lib.hid h
  clear h
  obtain ⟨p1, p2⟩ := hp
  have hz : ((p : Int) == 0) = false := by simp; omega
  have q1 : 0 ≤ (n : Int) / (p : Int) := Int.natCast_nonneg (n / p)
  have q2 : (n : Int) / (p : Int) ≤ 16 := by
    have := Nat.div_le_self n p
    have e : (n : Int) / (p : Int) = ((n / p : Nat) : Int) := rfl
    omega
  go_enter Tryd.func33, Tryd.ntmps33
  go_wp2_with fail
  refine (c1.out _).mono ?_
  rintro e w1 ⟨rfl, hg⟩
  have k1 := hg.own.1 1 _ rfl
  have HG := Lib.hid hg
  clear hg
  go_wp2
  go_ret
  exact ⟨rfl, ((Gr.refl _).alloc _).trans HG.out⟩
theorem all_val {L : Nat} (h : L ≤ 16) : ((2 : Int) ^ L % 4294967296 - 1) % 4294967296 = ((2 ^ L - 1 : Nat) : Int) := by
  have : L < 17 := by omega
  revert L
  intro L h h2
  have key : ∀ i : Fin 17, ((2 : Int) ^ i.val % 4294967296 - 1) % 4294967296 = ((2 ^ i.val - 1 : Nat) : Int) := by decide +kernel
  exact key ⟨L, h2⟩
end Go.Proofs.YtegapeplbincnaaDoor
