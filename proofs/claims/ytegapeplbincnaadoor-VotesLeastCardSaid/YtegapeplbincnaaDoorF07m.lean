import Derived.Test.YtegapeplbincnaaDoorF07l
import Derived.WalkKit
import Derived.ProofKit
import Derived.LoopTactic
import Derived.Outline
import Derived.WalkSpells
import Derived.WalkLawsBesides
import Derived.Lib.Hide
import Derived.Deep.LoopGhost
import Derived.Deep.QuietTactic
import Derived.BigQuiet
import Derived.ShutString
import Derived.IntWalk
namespace Go.Proofs.YtegapeplbincnaaDoor
open Go.ChangeShapes Go.WideShapes Go.ChangeAt Go.RowKit
open Grids
set_option linter.unusedVariables false
theorem and15 (a : Int) : ∃ m : Nat, m ≤ 15 ∧ bits .and .i64 a 15 = (m : Int) := by
  have e : (BitVec.ofInt 64 ((15 : Nat) : Int)).toNat = 15 := by decide
  have hx : (BitVec.ofInt 64 a &&& BitVec.ofInt 64 ((15 : Nat) : Int)).toNat ≤ 15 := by
    rw [BitVec.toNat_and, e]; exact Nat.and_le_right
  have e3 := IntWalk.i64_in ((BitVec.ofInt 64 a &&& BitVec.ofInt 64 ((15 : Nat) : Int)).toNat : Int) ⟨by omega, by omega⟩
  exact ⟨_, hx, e3⟩
theorem mask_and {W n : Nat} (hW : W < 4294967296) (hn : n ≤ 16) : ∃ v : Nat, bits .and .u32 (W : Int) (((2 : Int) ^ n - 1) % 4294967296) = (v : Int) ∧ v < 2 ^ n := by
  have key : ∀ i : Fin 17, ((2 : Int) ^ i.val - 1) % 4294967296 = ((2 ^ i.val - 1 : Nat) : Int) := by decide +kernel
  have hp : 2 ^ n ≤ 2 ^ 16 := Nat.pow_le_pow_right (by decide) hn
  have h0 : 0 < 2 ^ n := Nat.pow_pos (by decide)
  rw [show ((2 : Int) ^ n - 1) % 4294967296 = ((2 ^ n - 1 : Nat) : Int) from key ⟨n, by omega⟩, w32_and _ _ hW (by omega), Nat.and_two_pow_sub_one_eq_mod]
  exact ⟨_, rfl, Nat.mod_lt _ h0⟩
theorem w64 {r : Nat} (y : Nat) (h : 1 ≤ y ∧ y ≤ r) (hr : r ≤ 3) : wrap64 (y : Int) = y := by
  unfold wrap64; omega
theorem step_bd {a r y : Nat} (h : 1 ≤ r) (e : 1 + (a : Int) % r = y) : 1 ≤ y ∧ y ≤ r := by
  have : 1 + a % r = y := by omega
  have := Nat.mod_lt a (show 0 < r by omega)
  omega
/-- A configuration of at most nine nodes that has its form. -/
structure Shp (r p W z1 n1 z2 n2 : Nat) : Prop where
  hr : 1 ≤ r ∧ r ≤ 3
  hp : 1 ≤ p ∧ p ≤ 3
  hW : W < 2 ^ (r * p)
  hz1 : 1 ≤ z1 ∧ z1 ≤ r
  hn1 : 1 ≤ n1 ∧ n1 ≤ p
  hz2 : 1 ≤ z2 ∧ z2 ≤ r
  hn2 : 1 ≤ n2 ∧ n2 ≤ p
set_option maxRecDepth 100000 in
set_option maxHeartbeats 2000000 in
theorem small_any (R P z1 n1 z2 n2 : Int) (W : Nat) (w : World) (hW : W < 4294967296) :
    Calls Tryd.prog 26 #[.agg #[.int .i64 R, .int .i64 P, .int .u32 W, .int .i64 z1, .int .i64 n1, .int .i64 z2, .int .i64 n2]] w fun e w' => ∃ r p W z1 n1 z2 n2 : Nat, Shp r p W z1 n1 z2 n2 ∧ e = .returned (.agg #[.int .i64 r, .int .i64 p, .int .u32 W, .int .i64 z1, .int .i64 n1, .int .i64 z2, .int .i64 n2]) ∧ Gr w w' := by
  obtain ⟨a0, b0, e0⟩ := and15 R
  obtain ⟨a1, b1, e1⟩ := and15 P
  obtain ⟨a2, b2, e2⟩ := and15 z1
  obtain ⟨a3, b3, e3⟩ := and15 n1
  obtain ⟨a4, b4, e4⟩ := and15 z2
  obtain ⟨a5, b5, e5⟩ := and15 n2
  go_enter Tryd.func26, Tryd.ntmps26
  go_wp2
  obtain ⟨r, hr⟩ : ∃ r : Nat, 1 + (a0 : Int) % 3 = r := ⟨1 + a0 % 3, by simp⟩
  obtain ⟨p, hp⟩ : ∃ p : Nat, 1 + (a1 : Int) % 3 = p := ⟨1 + a1 % 3, by simp⟩
  rw [hr, hp]
  have r1 : 1 ≤ r := by omega
  have r3 : r ≤ 3 := by omega
  have p1 : 1 ≤ p := by omega
  have p3 : p ≤ 3 := by omega
  clear hr hp e0 e1 b0 b1
  have h9 : r * p ≤ 9 := Nat.mul_le_mul r3 p3
  obtain ⟨m0, m1⟩ := mul_in (r := r) (p := p) (by omega)
  go_region
  obtain ⟨v, hv, hvl⟩ := mask_and (W := W) (n := r * p) hW (by omega)
  rw [hv]
  clear hv m0 m1 h9
  have r0 : ((r : Int) == 0) = false := by simp; omega
  have p0 : ((p : Int) == 0) = false := by simp; omega
  go_wp2
  go_region
  obtain ⟨y1, hy1⟩ : ∃ y : Nat, 1 + (a2 : Int) % r = y := ⟨1 + a2 % r, by simp⟩
  obtain ⟨y2, hy2⟩ : ∃ y : Nat, 1 + (a3 : Int) % p = y := ⟨1 + a3 % p, by simp⟩
  rw [hy1, hy2]
  have f1 := step_bd r1 hy1
  have f2 := step_bd p1 hy2
  rw [w64 y1 f1 r3, w64 y2 f2 p3]
  clear hy1 hy2 e2 e3 b2 b3
  go_wp2
  go_region
  obtain ⟨y3, hy3⟩ : ∃ y : Nat, 1 + (a4 : Int) % r = y := ⟨1 + a4 % r, by simp⟩
  obtain ⟨y4, hy4⟩ : ∃ y : Nat, 1 + (a5 : Int) % p = y := ⟨1 + a5 % p, by simp⟩
  rw [hy3, hy4]
  have f3 := step_bd r1 hy3
  have f4 := step_bd p1 hy4
  rw [w64 y3 f3 r3, w64 y4 f4 p3]
  clear hy3 hy4 e4 e5 b4 b5 r0 p0
  go_wp2
  exact bodyPost_ret (v := .agg #[.int .i64 r, .int .i64 p, .int .u32 v, .int .i64 y1, .int .i64 y2, .int .i64 y3, .int .i64 y4]) (by simp [results, Tryd.results26, go_sem]) rfl ⟨r, p, v, y1, y2, y3, y4, ⟨⟨r1, r3⟩, ⟨p1, p3⟩, hvl, f1, f2, f3, f4⟩, rfl, (((((Gr.refl _).alloc _).alloc _).drew).drew).drew⟩
end Go.Proofs.YtegapeplbincnaaDoor
