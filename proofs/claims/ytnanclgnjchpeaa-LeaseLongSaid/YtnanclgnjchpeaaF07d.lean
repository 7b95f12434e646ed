import Derived.Test.YtnanclgnjchpeaaF07c
import Derived.WalkKit
import Derived.ProofKit
import Derived.LoopTactic
import Derived.Outline
import Derived.WalkSpells
import Derived.WalkLawsBesides
import Derived.Lib.Hide
import Derived.Deep.LoopGhost
import Derived.Deep.QuietTactic
import Derived.BigQuiet
import Derived.ShutString
import Derived.IntWalk
namespace Go.Proofs.Ytnanclgnjchpeaa
open Go.ChangeShapes Go.WideShapes Go.ChangeAt Go.RowKit
open Grids
set_option linter.unusedVariables false
/-- Is every number of a configuration in its range? -/
def Form (R P : Int) (W : Nat) (z1 n1 z2 n2 : Int) : Prop :=
  (1 ≤ R ∧ R ≤ 4) ∧ (1 ≤ P ∧ P ≤ 4) ∧ R * P ≤ 12 ∧ W / 2 ^ (R * P).toNat = 0 ∧ ((1 ≤ z1 ∧ z1 ≤ R) ∧ 1 ≤ n1 ∧ n1 ≤ P) ∧ (1 ≤ z2 ∧ z2 ≤ R) ∧ 1 ≤ n2 ∧ n2 ≤ P
instance (R P : Int) (W : Nat) (z1 n1 z2 n2 : Int) : Decidable (Form R P W z1 n1 z2 n2) := by unfold Form; infer_instance
theorem rp_bd {R P : Int} (h : 1 ≤ R ∧ R ≤ 4) (k : 1 ≤ P ∧ P ≤ 4) : 0 ≤ R * P ∧ R * P ≤ 16 :=
  ⟨Int.mul_nonneg (by omega) (by omega), Int.le_trans (Int.mul_le_mul h.2 k.2 (by omega) (by omega)) (by decide)⟩
theorem form_cases (R P : Int) (W : Nat) (z1 n1 z2 n2 : Int) :
    ∃ f1 f2 f3 f4 f5 f6 : Bool, decide (1 ≤ R ∧ R ≤ 4) = f1 ∧ decide (1 ≤ P ∧ P ≤ 4) = f2 ∧ decide (R * P ≤ 12) = f3 ∧ ((W : Int) / 2 ^ (R * P).toNat == 0) = f4 ∧
      (decide (1 ≤ z1 ∧ z1 ≤ R) && decide (1 ≤ n1 ∧ n1 ≤ P)) = f5 ∧ (decide (1 ≤ z2 ∧ z2 ≤ R) && decide (1 ≤ n2 ∧ n2 ≤ P)) = f6 ∧ decide (Form R P W z1 n1 z2 n2) = (f1 && f2 && f3 && f4 && f5 && f6) := by
  refine ⟨_, _, _, _, _, _, rfl, rfl, rfl, rfl, rfl, rfl, ?_⟩
  have e : ((W : Int) / 2 ^ (R * P).toNat == 0) = decide (W / 2 ^ (R * P).toNat = 0) := by
    have : (W : Int) / 2 ^ (R * P).toNat = ((W / 2 ^ (R * P).toNat : Nat) : Int) := by simp
    rw [this, Bool.eq_iff_iff, beq_iff_eq, decide_eq_true_eq]; omega
  rw [e]
  unfold Form
  rw [Bool.eq_iff_iff]
  simp only [decide_eq_true_eq, Bool.and_eq_true, and_assoc]
set_option maxRecDepth 100000 in
set_option maxHeartbeats 1000000 in
theorem hasForm_any (R P : Int) (W : Nat) (z1 n1 z2 n2 : Int) (w : World) :
    Calls Try.prog 199 #[.agg #[.int .i64 R, .int .i64 P, .int .u32 W, .int .i64 z1, .int .i64 n1, .int .i64 z2, .int .i64 n2]] w fun e w' => e = .returned (.bool (decide (Form R P W z1 n1 z2 n2))) ∧ Gr w w' := by
  obtain ⟨f1, f2, f3, f4, f5, f6, h1, h2, h3, h4, h5, h6, hF⟩ := form_cases R P W z1 n1 z2 n2
  rw [hF]; clear hF
  have c1 := Lib.hid (upTo_any R 4)
  have c2 := Lib.hid (upTo_any P 4)
  have c5 := Lib.hid (hasKind_any R P W z1 n1 z2 n2 z1 n1)
  have c6 := Lib.hid (hasKind_any R P W z1 n1 z2 n2 z2 n2)
  rw [h1] at c1
  rw [h2] at c2
  rw [h5] at c5
  rw [h6] at c6
  clear h5 h6
  cases f1
  · clear h1 h2 h3 h4
    go_enter Try.func199, Try.ntmps199
    go_wp2_with fail
    refine (c1.out _).mono ?_
    rintro e w1 ⟨rfl, rfl⟩
    go_wp2
    go_ret
    exact ⟨rfl, (Gr.refl _).alloc _⟩
  cases f2
  · clear h1 h2 h3 h4
    go_enter Try.func199, Try.ntmps199
    go_wp2_with fail
    refine (c1.out _).mono ?_
    rintro e w1 ⟨rfl, rfl⟩
    go_wp2_with fail
    refine (c2.out _).mono ?_
    rintro e w1 ⟨rfl, rfl⟩
    go_wp2
    go_ret
    exact ⟨rfl, (Gr.refl _).alloc _⟩
  obtain ⟨m1, m2⟩ := rp_bd (of_decide_eq_true h1) (of_decide_eq_true h2)
  clear h1 h2
  cases f3
  · have h3' := of_decide_eq_false h3
    clear h3 h4
    go_enter Try.func199, Try.ntmps199
    go_wp2_with fail
    refine (c1.out _).mono ?_
    rintro e w1 ⟨rfl, rfl⟩
    go_wp2_with fail
    refine (c2.out _).mono ?_
    rintro e w1 ⟨rfl, rfl⟩
    go_wp2
    go_ret
    exact ⟨by first | rfl | (simp <;> omega), (Gr.refl _).alloc _⟩
  have h3' := of_decide_eq_true h3
  clear h3
  cases f4
  · go_enter Try.func199, Try.ntmps199
    go_wp2_with fail
    refine (c1.out _).mono ?_
    rintro e w1 ⟨rfl, rfl⟩
    go_wp2_with fail
    refine (c2.out _).mono ?_
    rintro e w1 ⟨rfl, rfl⟩
    go_wp2
    go_ret
    exact ⟨by first | rfl | (simp <;> omega), (Gr.refl _).alloc _⟩
  cases f5
  · go_enter Try.func199, Try.ntmps199
    go_wp2_with fail
    refine (c1.out _).mono ?_
    rintro e w1 ⟨rfl, rfl⟩
    go_wp2_with fail
    refine (c2.out _).mono ?_
    rintro e w1 ⟨rfl, rfl⟩
    go_wp2_with fail
    refine (c5.out _).mono ?_
    rintro e w1 ⟨rfl, hg⟩
    have HG := Lib.hid hg
    clear hg
    go_wp2
    go_ret
    exact ⟨rfl, ((Gr.refl _).alloc _).trans HG.out⟩
  · go_enter Try.func199, Try.ntmps199
    go_wp2_with fail
    refine (c1.out _).mono ?_
    rintro e w1 ⟨rfl, rfl⟩
    go_wp2_with fail
    refine (c2.out _).mono ?_
    rintro e w1 ⟨rfl, rfl⟩
    go_wp2_with fail
    refine (c5.out _).mono ?_
    rintro e w1 ⟨rfl, hg⟩
    have HG := Lib.hid hg
    have k0 := hg.own.1 0 _ rfl
    have k1 := hg.own.1 1 _ rfl
    have k2 := hg.own.1 2 _ rfl
    have k3 := hg.own.1 3 _ rfl
    have k4 := hg.own.1 4 _ rfl
    have k5 := hg.own.1 5 _ rfl
    have k6 := hg.own.1 6 _ rfl
    clear hg
    go_wp2_with fail
    refine (c6.out _).mono ?_
    rintro e w2 ⟨rfl, hg⟩
    have HG2 := Lib.hid hg
    clear hg
    go_wp2
    go_ret
    exact ⟨rfl, (((Gr.refl _).alloc _).trans HG.out).trans HG2.out⟩
end Go.Proofs.Ytnanclgnjchpeaa
