import Derived.Test.YtegapeplbincnaaDoorF07j
import Derived.WalkKit
import Derived.ProofKit
import Derived.LoopTactic
import Derived.Outline
import Derived.WalkSpells
import Derived.WalkLawsBesides
import Derived.Lib.Hide
import Derived.Deep.LoopGhost
import Derived.Deep.QuietTactic
import Derived.BigQuiet
import Derived.ShutString
import Derived.IntWalk
namespace Go.Proofs.YtegapeplbincnaaDoor
open Go.ChangeShapes Go.WideShapes Go.ChangeAt Go.RowKit
open Grids
set_option linter.unusedVariables false
theorem snoc_all {Q : Nat → Prop} {N k : Nat} (h : ∀ j, N ≤ j → j < k → Q j) (hk : Q k) : ∀ j, N ≤ j → j < k + 1 → Q j := by
  intro j h1 h2
  rcases Nat.lt_or_ge j k with h3 | h3
  · exact h j h1 h3
  · obtain rfl : j = k := by omega
    exact hk
theorem shape_cases (R P : Int) (W : Nat) (z1 n1 z2 n2 : Int) :
    ∃ f1 f2 f3 f4 g1 g2 g3 g4 : Bool, decide (1 ≤ R ∧ R ≤ 4) = f1 ∧ decide (1 ≤ P ∧ P ≤ 4) = f2 ∧ decide (R * P ≤ 12) = f3 ∧ decide (W / 2 ^ (R * P).toNat = 0) = f4 ∧
      decide (1 ≤ z1 ∧ z1 ≤ R) = g1 ∧ decide (1 ≤ z2 ∧ z2 ≤ R) = g2 ∧ decide (1 ≤ n1 ∧ n1 ≤ P) = g3 ∧ decide (1 ≤ n2 ∧ n2 ≤ P) = g4 ∧ decide (Form R P W z1 n1 z2 n2) = (f1 && (f2 && (f3 && (g1 && (g2 && (g3 && (g4 && f4))))))) := by
  refine ⟨_, _, _, _, _, _, _, _, rfl, rfl, rfl, rfl, rfl, rfl, rfl, rfl, ?_⟩
  rw [Bool.eq_iff_iff, decide_eq_true_eq]
  simp only [decide_eq_true_eq, Bool.and_eq_true]
  unfold Form
  constructor
  · rintro ⟨h1, h2, h3, h4, ⟨h5, h6⟩, h7, h8⟩; exact ⟨h1, h2, h3, h5, h7, h6, h8, h4⟩
  · rintro ⟨h1, h2, h3, h5, h7, h6, h8, h4⟩; exact ⟨h1, h2, h3, h4, ⟨h5, h6⟩, h7, h8⟩
set_option maxRecDepth 100000 in
set_option maxHeartbeats 2000000 in
theorem shaped_any (R P : Int) (W : Nat) (z1 n1 z2 n2 : Int) (w : World) (hW : W < 4294967296) :
    Calls Tryd.prog 39 #[.agg #[.int .i64 R, .int .i64 P, .int .u32 W, .int .i64 z1, .int .i64 n1, .int .i64 z2, .int .i64 n2]] w fun e w' => e = .returned (.bool (decide (Form R P W z1 n1 z2 n2))) ∧ Gr w w' := by
  obtain ⟨f1, f2, f3, f4, g1, g2, g3, g4, h1, h2, h3, h4, h5, h6, h7, h8, hF⟩ := shape_cases R P W z1 n1 z2 n2
  rw [hF]; clear hF
  have c1 := Lib.hid (between_any R 1 4)
  have c2 := Lib.hid (between_any P 1 4)
  have c5 := Lib.hid (between_any z1 1 R)
  have c6 := Lib.hid (between_any z2 1 R)
  have c7 := Lib.hid (between_any n1 1 P)
  have c8 := Lib.hid (between_any n2 1 P)
  rw [h1] at c1
  rw [h2] at c2
  rw [h5] at c5
  rw [h6] at c6
  rw [h7] at c7
  rw [h8] at c8
  clear h5 h6 h7 h8
  have H4 := Lib.hid h4
  clear h4
  cases f1
  · clear h1 h2 h3
    go_enter Tryd.func39, Tryd.ntmps39
    go_wp2_with fail
    refine (c1.out _).mono ?_
    rintro e w1 ⟨rfl, rfl⟩
    go_wp2
    go_ret
    exact ⟨rfl, (Gr.refl _).alloc _⟩
  cases f2
  · clear h1 h2 h3
    go_enter Tryd.func39, Tryd.ntmps39
    go_wp2_with fail
    refine (c1.out _).mono ?_
    rintro e w1 ⟨rfl, rfl⟩
    go_wp2_with fail
    refine (c2.out _).mono ?_
    rintro e w1 ⟨rfl, rfl⟩
    go_wp2
    go_ret
    exact ⟨rfl, (Gr.refl _).alloc _⟩
  obtain ⟨m1, m2⟩ := rp_bd (of_decide_eq_true h1) (of_decide_eq_true h2)
  clear h1 h2
  cases f3
  · have h3' := of_decide_eq_false h3
    clear h3
    go_enter Tryd.func39, Tryd.ntmps39
    go_wp2_with fail
    refine (c1.out _).mono ?_
    rintro e w1 ⟨rfl, rfl⟩
    go_wp2_with fail
    refine (c2.out _).mono ?_
    rintro e w1 ⟨rfl, rfl⟩
    go_wp2
    go_ret
    exact ⟨rfl, (Gr.refl _).alloc _⟩
  have h3' := of_decide_eq_true h3
  clear h3
  obtain ⟨N, hN⟩ : ∃ N : Nat, R * P = N := ⟨(R * P).toNat, by omega⟩
  have HT := Lib.hid (show (R * P).toNat = N by omega)
  rw [HT.out] at H4
  have hN12 : N ≤ 12 := by omega
  go_enter Tryd.func39, Tryd.ntmps39
  go_wp2_with fail
  refine (c1.out _).mono ?_
  rintro e w1 ⟨rfl, rfl⟩
  go_wp2_with fail
  refine (c2.out _).mono ?_
  rintro e w1 ⟨rfl, rfl⟩
  go_wp2_with fail
  refine (c5.out _).mono ?_
  rintro e w1 ⟨rfl, rfl⟩
  cases g1
  · go_wp2
    go_ret
    exact ⟨rfl, (Gr.refl _).alloc _⟩
  go_wp2_with fail
  refine (c6.out _).mono ?_
  rintro e w1 ⟨rfl, rfl⟩
  cases g2
  · go_wp2
    go_ret
    exact ⟨rfl, (Gr.refl _).alloc _⟩
  go_wp2_with fail
  refine (c7.out _).mono ?_
  rintro e w1 ⟨rfl, rfl⟩
  cases g3
  · go_wp2
    go_ret
    exact ⟨rfl, (Gr.refl _).alloc _⟩
  go_wp2_with fail
  refine (c8.out _).mono ?_
  rintro e w1 ⟨rfl, rfl⟩
  cases g4
  · go_wp2
    go_ret
    exact ⟨rfl, (Gr.refl _).alloc _⟩
  go_wp2
  go_loop [3] (fun i => ∃ k : Nat, N ≤ k ∧ k ≤ 32 ∧ i = .int .i64 k ∧ Hid (∀ j, N ≤ j → j < k → W.testBit j = false)) (fun i => 32 - (intOf i).toNat)
  case atStart => exact ⟨N, Nat.le_refl _, by omega, rfl, Lib.hid fun j h1 h2 => by omega⟩
  case round =>
    obtain ⟨k, hk1, hk2, rfl, hall⟩ := hrel
    by_cases hlt : k < 32
    · have HH := Lib.hid (fun w => has_any W k w hW (by omega))
      obtain ⟨t, ht⟩ : ∃ t, W.testBit k = t := ⟨_, rfl⟩
      rw [ht] at HH
      have HT' := Lib.hid ht
      clear ht
      cases t
      · go_wp2_with fail
        refine (HH.out _).mono ?_
        rintro e w9 ⟨rfl, rfl⟩
        go_wp2
        go_round
        case rel => exact ⟨k + 1, by omega, by omega, by go_num, Lib.hid (snoc_all hall.out HT'.out)⟩
        case measure => simp [intOf]; omega
      · go_wp2_with fail
        refine (HH.out _).mono ?_
        rintro e w9 ⟨rfl, rfl⟩
        go_wp2
        go_ret
        refine ⟨?_, (Gr.refl _).alloc _⟩
        have := high_some hk1 HT'.out
        have h5 := H4.out
        rw [decide_eq_false this] at h5
        subst h5; rfl
    · obtain rfl : k = 32 := by omega
      go_wp2
      go_ret
      refine ⟨?_, (Gr.refl _).alloc _⟩
      have := high_none hW hall.out
      have h5 := H4.out
      rw [decide_eq_true this] at h5
      subst h5; rfl
end Go.Proofs.YtegapeplbincnaaDoor
