import Derived.Test.YtnanclgnjchpeaaF04
import Derived.WalkKit
import Derived.ProofKit
import Derived.LoopTactic
import Derived.Outline
import Derived.WalkSpells
import Derived.WalkLawsBesides
import Derived.Lib.Hide
import Derived.Deep.LoopGhost
import Derived.Deep.QuietTactic
import Derived.BigQuiet
import Derived.ShutString
import Derived.IntWalk
namespace Go.Proofs.Ytnanclgnjchpeaa
open Go.ChangeShapes Go.WideShapes Go.ChangeAt Go.RowKit
open Rates
set_option linter.unusedVariables false
set_option maxRecDepth 100000 in
theorem refLonger_any (p q t : Int) (w : World) :
    Calls Try.prog 60 #[.int .i64 p, .int .i64 q, .int .i64 t] w fun e w' => e = .returned (.int .i64 (longer p q t)) ∧ w = w' := by
  have hb := lim_bd t
  have E : longer p q t = if good p q then (lim t * p + q - 1) / q else lim t := rfl
  rw [E]; clear E
  obtain ⟨T, HT⟩ : ∃ T, Hid (lim t = T) := ⟨_, Lib.hid rfl⟩
  rw [HT.out] at hb ⊢
  obtain ⟨b1, b2⟩ := hb
  cases h : good p q
  · rw [if_neg (by decide)]
    have hgd := refGood_any p q
    rw [h] at hgd
    clear h
    go_enter Try.func60, Try.ntmps60
    go_wp2_with (first | (go_at_call 123; refine (within_to _ _ HT _).mono ?_; rintro e w1 ⟨rfl, rfl⟩) | (go_at_call 124; refine (hgd _).mono ?_; rintro e w1 ⟨rfl, rfl⟩))
    go_ret
    exact ⟨rfl, rfl⟩
  · rw [if_pos rfl]
    have hgd := refGood_any p q
    rw [h] at hgd
    have hu := up_bd (good_of h) b1
    obtain ⟨h1, h2, h3, h4⟩ := good_of h
    clear h
    obtain ⟨m1, m2⟩ := mul_bd (x := 1099511627776) (y := 1000) b1 (show 0 ≤ p by omega) b2 h3
    have HL := fun n => Lib.hid (@lt_up p q T n (by omega))
    obtain ⟨L, hL⟩ : ∃ L, (T * p + q - 1) / q = L := ⟨_, rfl⟩
    rw [hL] at hu ⊢
    simp only [hL] at HL
    clear hL
    obtain ⟨u1, u2⟩ := hu
    go_enter Try.func60, Try.ntmps60
    go_wp2_with (first | (go_at_call 123; refine (within_to _ _ HT _).mono ?_; rintro e w1 ⟨rfl, rfl⟩) | (go_at_call 124; refine (hgd _).mono ?_; rintro e w1 ⟨rfl, rfl⟩))
    clear hgd
    go_loop [7, 8] (fun n s => ∃ (k : Nat) (N S : Int), k ≤ 44 ∧ Hid (half k = S) ∧ s = .int .i64 S ∧ n = .int .i64 N ∧ 0 ≤ N ∧ N ≤ L ∧ L < N + 2 ^ k) (fun _ s => (intOf s).toNat)
    case atStart => exact ⟨44, 0, _, by omega, Lib.hid rfl, rfl, rfl, by omega, by omega, by omega⟩
    case round =>
      obtain ⟨k, N, S, hk, HS, rfl, rfl, hN0, hN, hLk⟩ := hrel
      match k, hk, HS, hLk with
      | 0, hk, HS, hLk =>
        obtain rfl : S = 0 := HS.out.symm
        obtain rfl : N = L := by rw [Int.pow_zero] at hLk; omega
        go_wp2
        go_ret
        exact ⟨rfl, rfl⟩
      | k + 1, hk, HS, hLk =>
        have hs1 := half_succ k
        have hs2 := half_half k
        have hp1 := pow_pos k
        have hp2 := pow_le (show k ≤ 43 by omega)
        have hp3 : (2 : Int) ^ (k + 1) = 2 ^ k * 2 := Int.pow_succ _ _
        rw [HS.out] at hs1 hs2
        rw [← hs1] at hp1 hp2 hp3
        rw [hp3] at hLk
        have HK := Lib.hid hs1
        have HS2 := Lib.hid hs2.symm
        clear HS hs1 hs2 hp3
        have hp4 : S ≤ 8796093022208 := hp2
        clear hp2
        have m3 := mul_bd (x := 13194139533312) (y := 1000) (show 0 ≤ N + S - 1 by omega) (show 0 ≤ q by omega) (by omega) (by omega)
        obtain ⟨m3, m4⟩ := m3
        have hl := (HL (N + S - 1)).out
        by_cases hlt : N + S - 1 < L
        · have ht := hl.1 hlt
          clear hl HL
          go_wp2
          go_round
          case rel => exact ⟨k, N + S, S / 2, by omega, HS2, rfl, rfl, by omega, by omega, by rw [← HK.out]; omega⟩
          case measure => simp [intOf]; omega
        · have ht : ¬ (N + S - 1) * q < T * p := fun c => hlt (hl.2 c)
          clear hl HL
          go_wp2
          go_round
          case rel => exact ⟨k, N, S / 2, by omega, HS2, rfl, rfl, by omega, by omega, by rw [← HK.out]; omega⟩
          case measure => simp [intOf]; omega
/-- A rate, of any two numbers. -/
def NearIs (w : World) (e : Ending) (w' : World) : Prop := ∃ P Q : Int, e = .returned (.agg #[.int .i64 P, .int .i64 Q]) ∧ good P Q = true ∧ Gr w w'
theorem good_near (x y : Int) : good (1 + x % 200 + y % (3 * (1 + x % 200) + 1)) (1 + x % 200) = true := by
  have h1 : 0 ≤ x % 200 ∧ x % 200 < 200 := by omega
  generalize x % 200 = z at *
  have h2 := Int.emod_nonneg y (show 3 * (1 + z) + 1 ≠ 0 by omega)
  have h3 := Int.emod_lt_of_pos y (show 0 < 3 * (1 + z) + 1 by omega)
  exact good_mk (by omega)
theorem near_bd (x y : Int) : 0 ≤ y % (3 * (1 + x % 200) + 1) ∧ y % (3 * (1 + x % 200) + 1) ≤ 601 := by
  have h2 := Int.emod_nonneg y (show 3 * (1 + x % 200) + 1 ≠ 0 by omega)
  have h3 := Int.emod_lt_of_pos y (show 0 < 3 * (1 + x % 200) + 1 by omega)
  omega
end Go.Proofs.Ytnanclgnjchpeaa
