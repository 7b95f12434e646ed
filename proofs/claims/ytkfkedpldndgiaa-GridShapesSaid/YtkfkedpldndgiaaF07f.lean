import Derived.Test.YtkfkedpldndgiaaF07e
import Derived.WalkKit
import Derived.ProofKit
import Derived.LoopTactic
import Derived.Outline
import Derived.WalkSpells
import Derived.WalkLawsBesides
import Derived.Lib.Hide
import Derived.Deep.LoopGhost
import Derived.Deep.QuietTactic
import Derived.BigQuiet
import Derived.ShutString
import Derived.IntWalk
import Derived.Deep.RegionHeld3
namespace Go.Proofs.Ytkfkedpldndgiaa
open Go.ChangeShapes Go.WideShapes Go.ChangeAt Go.RowKit
open Grids
set_option linter.unusedVariables false
set_option linter.unusedSimpArgs false
/-- What Check answers for a configuration. -/
def ChkIs (R P W z1 n1 z2 n2 c : Int) : Prop := ∀ w : World, Calls Try.prog 33 #[.agg #[.int .i64 R, .int .i64 P, .int .u32 W, .int .i64 z1, .int .i64 n1, .int .i64 z2, .int .i64 n2]] w fun e w' => e = .returned (.int .i64 c) ∧ Gr w w'
def LenIs (R P W z1 n1 z2 n2 L : Int) : Prop := ∀ w : World, Calls Try.prog 36 #[.agg #[.int .i64 R, .int .i64 P, .int .u32 W, .int .i64 z1, .int .i64 n1, .int .i64 z2, .int .i64 n2]] w fun e w' => e = .returned (.int .i64 L) ∧ Gr w w'
def HasIs (R P W z1 n1 z2 n2 n : Int) (q : Bool) : Prop := ∀ w : World, Calls Try.prog 37 #[.agg #[.int .i64 R, .int .i64 P, .int .u32 W, .int .i64 z1, .int .i64 n1, .int .i64 z2, .int .i64 n2], .int .i64 n] w fun e w' => e = .returned (.bool q) ∧ Gr w w'
def AllIs (R P W z1 n1 z2 n2 A : Int) : Prop := ∀ w : World, Calls Try.prog 39 #[.agg #[.int .i64 R, .int .i64 P, .int .u32 W, .int .i64 z1, .int .i64 n1, .int .i64 z2, .int .i64 n2]] w fun e w' => e = .returned (.int .u32 A) ∧ Gr w w'
theorem len_bad {R P W z1 n1 z2 n2 : Int} (h : ChkIs R P W z1 n1 z2 n2 12) : LenIs R P W z1 n1 z2 n2 0 := by
  intro w
  have c1 := Lib.hid h
  clear h
  go_enter Try.func36, Try.ntmps36
  go_wp2_with fail
  refine (c1.out _).mono ?_
  rintro e w1 ⟨rfl, hg⟩
  go_wp2
  go_ret
  exact ⟨rfl, ((Gr.refl _).alloc _).trans hg⟩
theorem len_ok {R P W z1 n1 z2 n2 : Int} (h : ChkIs R P W z1 n1 z2 n2 0) (h1 : 0 ≤ R * P) (h2 : R * P ≤ 16) : LenIs R P W z1 n1 z2 n2 (R * P) := by
  intro w
  have c1 := Lib.hid h
  clear h
  go_enter Try.func36, Try.ntmps36
  go_wp2_with fail
  refine (c1.out _).mono ?_
  rintro e w1 ⟨rfl, hg⟩
  have k0 := hg.own.1 0 _ rfl
  have k1 := hg.own.1 1 _ rfl
  have HG := Lib.hid hg
  clear hg
  go_wp2
  go_ret
  exact ⟨rfl, ((Gr.refl _).alloc _).trans HG.out⟩
theorem has2_any {R P W z1 n1 z2 n2 L : Int} (n : Int) (h : LenIs R P W z1 n1 z2 n2 L) : HasIs R P W z1 n1 z2 n2 n (decide (0 ≤ n ∧ n < L)) := by
  intro w
  have c1 := Lib.hid h
  clear h
  have hc : n < 0 ∧ decide (0 ≤ n ∧ n < L) = false ∨ 0 ≤ n ∧ n < L ∧ decide (0 ≤ n ∧ n < L) = true ∨ 0 ≤ n ∧ L ≤ n ∧ decide (0 ≤ n ∧ n < L) = false := by
    simp only [decide_eq_false_iff_not, decide_eq_true_eq]; omega
  rcases hc with ⟨h1, h2⟩ | ⟨h1, h3, h2⟩ | ⟨h1, h3, h2⟩
  · rw [h2]; clear h2
    go_enter Try.func37, Try.ntmps37
    go_wp2
    go_ret
    exact ⟨by first | rfl | (simp <;> omega), (Gr.refl _).alloc _⟩
  all_goals
    rw [h2]; clear h2
    go_enter Try.func37, Try.ntmps37
    go_wp2_with fail
    refine (c1.out _).mono ?_
    rintro e w1 ⟨rfl, hg⟩
    go_wp2
    go_ret
    exact ⟨by first | rfl | (simp <;> omega), ((Gr.refl _).alloc _).trans hg⟩
theorem regionOf_no {R P W z1 n1 z2 n2 n : Int} (h : HasIs R P W z1 n1 z2 n2 n false) (w : World) :
    Calls Try.prog 38 #[.agg #[.int .i64 R, .int .i64 P, .int .u32 W, .int .i64 z1, .int .i64 n1, .int .i64 z2, .int .i64 n2], .int .i64 n] w fun e w' => e = .returned (.int .i64 (-1)) ∧ Gr w w' := by
  have c1 := Lib.hid h
  clear h
  go_enter Try.func38, Try.ntmps38
  go_wp2_with fail
  refine (c1.out _).mono ?_
  rintro e w1 ⟨rfl, hg⟩
  go_wp2
  go_ret
  exact ⟨rfl, ((Gr.refl _).alloc _).trans hg⟩
theorem regionOf_yes {R W z1 n1 z2 n2 : Int} (n p : Nat) (hp : 1 ≤ p ∧ p ≤ 4) (hn : n ≤ 16) (h : HasIs R p W z1 n1 z2 n2 n true) (w : World) :
    Calls Try.prog 38 #[.agg #[.int .i64 R, .int .i64 p, .int .u32 W, .int .i64 z1, .int .i64 n1, .int .i64 z2, .int .i64 n2], .int .i64 n] w fun e w' => e = .returned (.int .i64 (n / p : Nat)) ∧ Gr w w' := by
  have c1 := Lib.hid h
  clear h
  obtain ⟨p1, p2⟩ := hp
  have hz : ((p : Int) == 0) = false := by simp; omega
  have q1 : 0 ≤ (n : Int) / (p : Int) := Int.natCast_nonneg (n / p)
  have q2 : (n : Int) / (p : Int) ≤ 16 := by
    have := Nat.div_le_self n p
    have e : (n : Int) / (p : Int) = ((n / p : Nat) : Int) := rfl
    omega
  go_enter Try.func38, Try.ntmps38
  go_wp2_with fail
  refine (c1.out _).mono ?_
  rintro e w1 ⟨rfl, hg⟩
  have k1 := hg.own.1 1 _ rfl
  have HG := Lib.hid hg
  clear hg
  go_wp2
  go_ret
  exact ⟨rfl, ((Gr.refl _).alloc _).trans HG.out⟩
theorem all_val {L : Nat} (h : L ≤ 16) : ((2 : Int) ^ L % 4294967296 - 1) % 4294967296 = ((2 ^ L - 1 : Nat) : Int) := by
  have : L < 17 := by omega
  revert L
  intro L h h2
  have key : ∀ i : Fin 17, ((2 : Int) ^ i.val % 4294967296 - 1) % 4294967296 = ((2 ^ i.val - 1 : Nat) : Int) := by decide +kernel
  exact key ⟨L, h2⟩
theorem all3_any {R P W z1 n1 z2 n2 : Int} {L : Nat} (hL : L ≤ 16) (h : LenIs R P W z1 n1 z2 n2 L) : AllIs R P W z1 n1 z2 n2 (2 ^ L - 1 : Nat) := by
  intro w
  have c1 := Lib.hid h
  have V := Lib.hid (all_val hL)
  clear h
  go_enter Try.func39, Try.ntmps39
  go_wp2_with fail
  refine (c1.out _).mono ?_
  rintro e w1 ⟨rfl, hg⟩
  go_wp2
  go_ret
  exact ⟨ret_int V.out, ((Gr.refl _).alloc _).trans hg⟩
theorem witnesses_any {R P z1 n1 z2 n2 : Int} {W A : Nat} (hW : W < 4294967296) (hA : A < 4294967296) (h : AllIs R P W z1 n1 z2 n2 A) (w : World) :
    Calls Try.prog 40 #[.agg #[.int .i64 R, .int .i64 P, .int .u32 W, .int .i64 z1, .int .i64 n1, .int .i64 z2, .int .i64 n2]] w fun e w' => e = .returned (.int .u32 (W &&& A : Nat)) ∧ Gr w w' := by
  have c1 := Lib.hid h
  have V := Lib.hid (w32_and W A hW hA)
  clear h
  generalize W &&& A = m at *
  go_enter Try.func40, Try.ntmps40
  go_wp2
  have hg0 := Gr.refl (w.alloc (.cells #[.int .i64 R, .int .i64 P, .int .u32 (W : Nat), .int .i64 z1, .int .i64 n1, .int .i64 z2, .int .i64 n2] 57))
  have HG0 := (Gr.refl w).alloc (.cells #[.int .i64 R, .int .i64 P, .int .u32 (W : Nat), .int .i64 z1, .int .i64 n1, .int .i64 z2, .int .i64 n2] 57)
  have k0 := hg0.own.1 0 _ rfl
  have k1 := hg0.own.1 1 _ rfl
  have k2 := hg0.own.1 2 _ rfl
  have k3 := hg0.own.1 3 _ rfl
  have k4 := hg0.own.1 4 _ rfl
  have k5 := hg0.own.1 5 _ rfl
  have k6 := hg0.own.1 6 _ rfl
  clear hg0
  generalize w.heap.size = b at *
  generalize w.alloc (.cells #[.int .i64 R, .int .i64 P, .int .u32 (W : Nat), .int .i64 z1, .int .i64 n1, .int .i64 z2, .int .i64 n2] 57) = wz at *
  go_region_held3 (fun w' => Gr w w' ∧ w'.cell? ⟨b, 0, none⟩ = some (.int .i64 R) ∧ w'.cell? ⟨b, 1, none⟩ = some (.int .i64 P) ∧ w'.cell? ⟨b, 2, none⟩ = some (.int .u32 (W : Nat)) ∧ w'.cell? ⟨b, 3, none⟩ = some (.int .i64 z1) ∧ w'.cell? ⟨b, 4, none⟩ = some (.int .i64 n1) ∧ w'.cell? ⟨b, 5, none⟩ = some (.int .i64 z2) ∧ w'.cell? ⟨b, 6, none⟩ = some (.int .i64 n2)) (first | exact ⟨HG0, k0, k1, k2, k3, k4, k5, k6⟩ | exact ⟨HG0.drew, k0, k1, k2, k3, k4, k5, k6⟩ | (go_split_ands; refine ⟨Gr.trans ?_ hgN, hgN.cell ?_, hgN.cell ?_, hgN.cell ?_, hgN.cell ?_, hgN.cell ?_, hgN.cell ?_, hgN.cell ?_⟩ <;> assumption)) (first | (go_at_call 39; refine (c1.out _).mono ?_; rintro e w9 ⟨rfl, hgN⟩))
  go_wp2
  go_ret
  go_split_ands
  exact ⟨ret_int V.out, by assumption⟩
end Go.Proofs.Ytkfkedpldndgiaa
