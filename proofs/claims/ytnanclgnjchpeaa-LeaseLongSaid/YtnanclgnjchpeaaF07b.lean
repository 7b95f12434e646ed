import Derived.Test.YtnanclgnjchpeaaC00
import Derived.Test.YtnanclgnjchpeaaM07
import Derived.Test.YtnanclgnjchpeaaF07
import Derived.Test.YtnanclgnjchpeaaM07b
import Derived.WalkKit
import Derived.ProofKit
import Derived.LoopTactic
import Derived.Outline
import Derived.WalkSpells
import Derived.WalkLawsBesides
import Derived.Lib.Hide
import Derived.Deep.LoopGhost
import Derived.Deep.QuietTactic
import Derived.BigQuiet
import Derived.ShutString
import Derived.IntWalk
import Derived.Lib.Tables
import Derived.Laws.Bits64b
namespace Go.Proofs.Ytnanclgnjchpeaa
open Go.ChangeShapes Go.WideShapes Go.ChangeAt Go.RowKit
open Grids
set_option linter.unusedVariables false
theorem and255 (x : Nat) (hx : x < 4294967296) : bits .and .u32 (x : Int) 255 = ((x % 256 : Nat) : Int) := by
  have := w32_and x 255 hx (by decide)
  rw [show (255 : Nat) = 2 ^ 8 - 1 from rfl, Nat.and_two_pow_sub_one_eq_mod] at this
  exact this
theorem mask_val {p r : Nat} (h : 1 ≤ p ∧ p ≤ 4) (hr : r ≤ 3) : ((2 : Int) ^ p - 1) % 4294967296 * 2 ^ (r * p) % 4294967296 = (mask p r : Nat) := by
  obtain rfl | rfl | rfl | rfl : p = 1 ∨ p = 2 ∨ p = 3 ∨ p = 4 := by omega
  all_goals (obtain rfl | rfl | rfl | rfl : r = 0 ∨ r = 1 ∨ r = 2 ∨ r = 3 := by omega) <;> decide +kernel
set_option maxRecDepth 100000 in
theorem region_any (R W z1 n1 z2 n2 : Int) (p r : Nat) (w : World) (hp : 1 ≤ p ∧ p ≤ 4) (hr : r ≤ 3) :
    Calls Try.prog 202 #[.agg #[.int .i64 R, .int .i64 p, .int .u32 W, .int .i64 z1, .int .i64 n1, .int .i64 z2, .int .i64 n2], .int .i64 r] w fun e w' => e = .returned (.int .u32 (mask p r : Nat)) ∧ Gr w w' := by
  have V := Lib.hid (mask_val hp hr)
  have hm : r * p ≤ 12 := Nat.le_trans (Nat.mul_le_mul hr hp.2) (by decide)
  have m1 : (0 : Int) ≤ (r : Int) * (p : Int) := by rw [← Int.natCast_mul]; omega
  have m2 : (r : Int) * (p : Int) ≤ 12 := by rw [← Int.natCast_mul]; omega
  obtain ⟨p1, p2⟩ := hp
  go_enter Try.func202, Try.ntmps202
  go_wp2
  go_region
  go_wp2
  go_ret
  refine ⟨?_, ((Gr.refl _).alloc _).drew⟩
  exact ret_int V.out
end Go.Proofs.Ytnanclgnjchpeaa
