import Derived.Test.YtnanclgnjchpeaaF07l
import Derived.WalkKit
import Derived.ProofKit
import Derived.LoopTactic
import Derived.Outline
import Derived.WalkSpells
import Derived.WalkLawsBesides
import Derived.Lib.Hide
import Derived.Deep.LoopGhost
import Derived.Deep.QuietTactic
import Derived.BigQuiet
import Derived.ShutString
import Derived.IntWalk
namespace Go.Proofs.Ytnanclgnjchpeaa
open Go.ChangeShapes Go.WideShapes Go.ChangeAt Go.RowKit
open Grids
set_option linter.unusedVariables false
theorem and15 (a : Int) : ∃ m : Nat, m ≤ 15 ∧ bits .and .i64 a 15 = (m : Int) := by
  have e : (BitVec.ofInt 64 ((15 : Nat) : Int)).toNat = 15 := by decide
  have hx : (BitVec.ofInt 64 a &&& BitVec.ofInt 64 ((15 : Nat) : Int)).toNat ≤ 15 := by
    rw [BitVec.toNat_and, e]; exact Nat.and_le_right
  have e3 := IntWalk.i64_in ((BitVec.ofInt 64 a &&& BitVec.ofInt 64 ((15 : Nat) : Int)).toNat : Int) ⟨by omega, by omega⟩
  exact ⟨_, hx, e3⟩
theorem mask_and {W n : Nat} (hW : W < 4294967296) (hn : n ≤ 16) : ∃ v : Nat, bits .and .u32 (W : Int) (((2 : Int) ^ n - 1) % 4294967296) = (v : Int) ∧ v < 2 ^ n := by
  have key : ∀ i : Fin 17, ((2 : Int) ^ i.val - 1) % 4294967296 = ((2 ^ i.val - 1 : Nat) : Int) := by decide +kernel
  have hp : 2 ^ n ≤ 2 ^ 16 := Nat.pow_le_pow_right (by decide) hn
  have h0 : 0 < 2 ^ n := Nat.pow_pos (by decide)
  rw [show ((2 : Int) ^ n - 1) % 4294967296 = ((2 ^ n - 1 : Nat) : Int) from key ⟨n, by omega⟩, w32_and _ _ hW (by omega), Nat.and_two_pow_sub_one_eq_mod]
  exact ⟨_, rfl, Nat.mod_lt _ h0⟩
theorem w64 {r : Nat} (y : Nat) (h : 1 ≤ y ∧ y ≤ r) (hr : r ≤ 3) : wrap64 (y : Int) = y := by
  unfold wrap64; omega
theorem step_bd {a r y : Nat} (h : 1 ≤ r) (e : 1 + (a : Int) % r = y) : 1 ≤ y ∧ y ≤ r := by
  have : 1 + a % r = y := by omega
  have := Nat.mod_lt a (show 0 < r by omega)
  omega
/-- A configuration of at most nine nodes that has its form. -/
structure Shp (r p W z1 n1 z2 n2 : Nat) : Prop where
  hr : 1 ≤ r ∧ r ≤ 3
  hp : 1 ≤ p ∧ p ≤ 3
  hW : W < 2 ^ (r * p)
  hz1 : 1 ≤ z1 ∧ z1 ≤ r
  hn1 : 1 ≤ n1 ∧ n1 ≤ p
  hz2 : 1 ≤ z2 ∧ z2 ≤ r
  hn2 : 1 ≤ n2 ∧ n2 ≤ p
end Go.Proofs.Ytnanclgnjchpeaa
