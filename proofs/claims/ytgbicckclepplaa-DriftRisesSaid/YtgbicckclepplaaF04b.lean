import Derived.Test.YtgbicckclepplaaF04
import Derived.WalkKit
import Derived.ProofKit
import Derived.LoopTactic
import Derived.Outline
import Derived.WalkSpells
import Derived.WalkLawsBesides
import Derived.Lib.Hide
import Derived.Deep.LoopGhost
import Derived.Deep.QuietTactic
import Derived.BigQuiet
import Derived.ShutString
import Derived.IntWalk
namespace Go.Proofs.Ytgbicckclepplaa
open Go.ChangeShapes Go.WideShapes Go.ChangeAt Go.RowKit
open Rates
set_option linter.unusedVariables false
theorem fits_bad (p q a b : Int) (w : World) (h : good p q = false) :
    Calls Try.prog 16 #[.agg #[.int .i64 p, .int .i64 q], .int .i64 a, .int .i64 b] w fun e w' => e = .returned (.bool false) ∧ Gr w w' := by
  go_enter Try.func16, Try.ntmps16
  go_wp2_with (first | (go_at_call 9; refine (check_bad _ _ _ h).mono ?_; rintro e w1 ⟨rfl, hg⟩))
  go_ret
  exact ⟨rfl, ((Gr.refl _).alloc _).trans hg⟩
theorem fits_out (p q a b A B : Int) (w : World) (h : good p q = true) (HA : Hid (lim a = A)) (HB : Hid (lim b = B)) (hx : (a != A) = true ∨ (a != A) = false ∧ (b != B) = true) :
    Calls Try.prog 16 #[.agg #[.int .i64 p, .int .i64 q], .int .i64 a, .int .i64 b] w fun e w' => e = .returned (.bool false) ∧ Gr w w' := by
  rcases hx with h1 | ⟨h1, h2⟩
  · go_enter Try.func16, Try.ntmps16
    go_wp2_with (first | (go_at_call 9; refine (check_ok _ _ _ h).mono ?_; rintro e w1 ⟨rfl, hg⟩))
    refine (limited_to a A HA _).mono ?_
    rintro e w2 ⟨rfl, rfl⟩
    go_wp2
    go_ret
    exact ⟨rfl, ((Gr.refl _).alloc _).trans hg⟩
  · go_enter Try.func16, Try.ntmps16
    go_wp2_with (first | (go_at_call 9; refine (check_ok _ _ _ h).mono ?_; rintro e w1 ⟨rfl, hg⟩))
    refine (limited_to a A HA _).mono ?_
    rintro e w2 ⟨rfl, rfl⟩
    go_wp2_with fail
    refine (limited_to b B HB _).mono ?_
    rintro e w2 ⟨rfl, rfl⟩
    go_wp2
    go_ret
    exact ⟨rfl, ((Gr.refl _).alloc _).trans hg⟩
theorem fits_in (p q a b : Int) (w : World) (h : good p q = true) (a0 : 0 ≤ a) (a1 : a ≤ 1099511627776) (b0 : 0 ≤ b) (b1 : b ≤ 1099511627776) :
    Calls Try.prog 16 #[.agg #[.int .i64 p, .int .i64 q], .int .i64 a, .int .i64 b] w fun e w' => e = .returned (.bool (decide (a * q ≤ b * p ∧ b * q ≤ a * p))) ∧ Gr w w' := by
  obtain ⟨h1, h2, h3, h4⟩ := good_of h
  have HA := Lib.hid (lim_self a0 a1)
  have HB := Lib.hid (lim_self b0 b1)
  obtain ⟨m1, m2⟩ := mul_bd (x := 1099511627776) (y := 1000) a0 (show 0 ≤ q by omega) a1 (by omega)
  obtain ⟨m3, m4⟩ := mul_bd (x := 1099511627776) (y := 1000) b0 (show 0 ≤ p by omega) b1 (by omega)
  obtain ⟨m5, m6⟩ := mul_bd (x := 1099511627776) (y := 1000) b0 (show 0 ≤ q by omega) b1 (by omega)
  obtain ⟨m7, m8⟩ := mul_bd (x := 1099511627776) (y := 1000) a0 (show 0 ≤ p by omega) a1 (by omega)
  have t1 : (a != a) = false := by simp
  have t2 : (b != b) = false := by simp
  by_cases c1 : a * q ≤ b * p
  · by_cases c2 : b * q ≤ a * p
    · have E := Lib.hid (show decide (a * q ≤ b * p ∧ b * q ≤ a * p) = true by simp [c1, c2])
      rw [E.out]
      go_enter Try.func16, Try.ntmps16
      go_wp2_with (first | (go_at_call 9; refine (check_ok _ _ _ h).mono ?_; rintro e w1 ⟨rfl, hg⟩; have z0 := hg.own.1 0 _ rfl; have z1 := hg.own.1 1 _ rfl))
      refine (limited_to a a HA _).mono ?_
      rintro e w2 ⟨rfl, rfl⟩
      go_wp2_with fail
      refine (limited_to b b HB _).mono ?_
      rintro e w2 ⟨rfl, rfl⟩
      go_wp2
      go_ret
      exact ⟨rfl, ((Gr.refl _).alloc _).trans hg⟩
    · have E := Lib.hid (show decide (a * q ≤ b * p ∧ b * q ≤ a * p) = false by simp [c2])
      rw [E.out]
      go_enter Try.func16, Try.ntmps16
      go_wp2_with (first | (go_at_call 9; refine (check_ok _ _ _ h).mono ?_; rintro e w1 ⟨rfl, hg⟩; have z0 := hg.own.1 0 _ rfl; have z1 := hg.own.1 1 _ rfl))
      refine (limited_to a a HA _).mono ?_
      rintro e w2 ⟨rfl, rfl⟩
      go_wp2_with fail
      refine (limited_to b b HB _).mono ?_
      rintro e w2 ⟨rfl, rfl⟩
      go_wp2
      go_ret
      exact ⟨by first | rfl | simp [c2], ((Gr.refl _).alloc _).trans hg⟩
  · have E := Lib.hid (show decide (a * q ≤ b * p ∧ b * q ≤ a * p) = false by simp [c1])
    rw [E.out]
    go_enter Try.func16, Try.ntmps16
    go_wp2_with (first | (go_at_call 9; refine (check_ok _ _ _ h).mono ?_; rintro e w1 ⟨rfl, hg⟩; have z0 := hg.own.1 0 _ rfl; have z1 := hg.own.1 1 _ rfl))
    refine (limited_to a a HA _).mono ?_
    rintro e w2 ⟨rfl, rfl⟩
    go_wp2_with fail
    refine (limited_to b b HB _).mono ?_
    rintro e w2 ⟨rfl, rfl⟩
    go_wp2
    go_ret
    exact ⟨rfl, ((Gr.refl _).alloc _).trans hg⟩
theorem fits_any (p q a b : Int) (w : World) :
    Calls Try.prog 16 #[.agg #[.int .i64 p, .int .i64 q], .int .i64 a, .int .i64 b] w fun e w' => e = .returned (.bool (fits p q a b)) ∧ Gr w w' := by
  cases h : good p q
  · have E : fits p q a b = false := by unfold fits; rw [h]; rfl
    rw [E]; exact fits_bad p q a b w h
  · by_cases hr : 0 ≤ a ∧ a ≤ 1099511627776 ∧ 0 ≤ b ∧ b ≤ 1099511627776
    · have E : fits p q a b = decide (a * q ≤ b * p ∧ b * q ≤ a * p) := by unfold fits; rw [h, decide_eq_true hr]; rfl
      rw [E]; exact fits_in p q a b w h hr.1 hr.2.1 hr.2.2.1 hr.2.2.2
    · have E : fits p q a b = false := by unfold fits; rw [h, decide_eq_false hr]; rfl
      rw [E]
      refine fits_out p q a b _ _ w h (Lib.hid rfl) (Lib.hid rfl) ?_
      simp only [bne_iff_ne, ne_eq, bne_eq_false_iff_eq]
      have h1 := lim_ne a
      have h2 := lim_ne b
      omega
set_option maxRecDepth 100000 in
theorem refLonger_any (p q t : Int) (w : World) :
    Calls Try.prog 12 #[.int .i64 p, .int .i64 q, .int .i64 t] w fun e w' => e = .returned (.int .i64 (longer p q t)) ∧ w = w' := by
  have hb := lim_bd t
  have E : longer p q t = if good p q then (lim t * p + q - 1) / q else lim t := rfl
  rw [E]; clear E
  obtain ⟨T, HT⟩ : ∃ T, Hid (lim t = T) := ⟨_, Lib.hid rfl⟩
  rw [HT.out] at hb ⊢
  obtain ⟨b1, b2⟩ := hb
  cases h : good p q
  · rw [if_neg (by decide)]
    have hgd := refGood_any p q
    rw [h] at hgd
    clear h
    go_enter Try.func12, Try.ntmps12
    go_wp2_with (first | (go_at_call 19; refine (within_to _ _ HT _).mono ?_; rintro e w1 ⟨rfl, rfl⟩) | (go_at_call 10; refine (hgd _).mono ?_; rintro e w1 ⟨rfl, rfl⟩))
    go_ret
    exact ⟨rfl, rfl⟩
  · rw [if_pos rfl]
    have hgd := refGood_any p q
    rw [h] at hgd
    have hu := up_bd (good_of h) b1
    obtain ⟨h1, h2, h3, h4⟩ := good_of h
    clear h
    obtain ⟨m1, m2⟩ := mul_bd (x := 1099511627776) (y := 1000) b1 (show 0 ≤ p by omega) b2 h3
    have HL := fun n => Lib.hid (@lt_up p q T n (by omega))
    obtain ⟨L, hL⟩ : ∃ L, (T * p + q - 1) / q = L := ⟨_, rfl⟩
    rw [hL] at hu ⊢
    simp only [hL] at HL
    clear hL
    obtain ⟨u1, u2⟩ := hu
    go_enter Try.func12, Try.ntmps12
    go_wp2_with (first | (go_at_call 19; refine (within_to _ _ HT _).mono ?_; rintro e w1 ⟨rfl, rfl⟩) | (go_at_call 10; refine (hgd _).mono ?_; rintro e w1 ⟨rfl, rfl⟩))
    clear hgd
    go_loop [7, 8] (fun n s => ∃ (k : Nat) (N S : Int), k ≤ 44 ∧ Hid (half k = S) ∧ s = .int .i64 S ∧ n = .int .i64 N ∧ 0 ≤ N ∧ N ≤ L ∧ L < N + 2 ^ k) (fun _ s => (intOf s).toNat)
    case atStart => exact ⟨44, 0, _, by omega, Lib.hid rfl, rfl, rfl, by omega, by omega, by omega⟩
    case round =>
      obtain ⟨k, N, S, hk, HS, rfl, rfl, hN0, hN, hLk⟩ := hrel
      match k, hk, HS, hLk with
      | 0, hk, HS, hLk =>
        obtain rfl : S = 0 := HS.out.symm
        obtain rfl : N = L := by rw [Int.pow_zero] at hLk; omega
        go_wp2
        go_ret
        exact ⟨rfl, rfl⟩
      | k + 1, hk, HS, hLk =>
        have hs1 := half_succ k
        have hs2 := half_half k
        have hp1 := pow_pos k
        have hp2 := pow_le (show k ≤ 43 by omega)
        have hp3 : (2 : Int) ^ (k + 1) = 2 ^ k * 2 := Int.pow_succ _ _
        rw [HS.out] at hs1 hs2
        rw [← hs1] at hp1 hp2 hp3
        rw [hp3] at hLk
        have HK := Lib.hid hs1
        have HS2 := Lib.hid hs2.symm
        clear HS hs1 hs2 hp3
        have hp4 : S ≤ 8796093022208 := hp2
        clear hp2
        have m3 := mul_bd (x := 13194139533312) (y := 1000) (show 0 ≤ N + S - 1 by omega) (show 0 ≤ q by omega) (by omega) (by omega)
        obtain ⟨m3, m4⟩ := m3
        have hl := (HL (N + S - 1)).out
        by_cases hlt : N + S - 1 < L
        · have ht := hl.1 hlt
          clear hl HL
          go_wp2
          go_round
          case rel => exact ⟨k, N + S, S / 2, by omega, HS2, rfl, rfl, by omega, by omega, by rw [← HK.out]; omega⟩
          case measure => simp [intOf]; omega
        · have ht : ¬ (N + S - 1) * q < T * p := fun c => hlt (hl.2 c)
          clear hl HL
          go_wp2
          go_round
          case rel => exact ⟨k, N, S / 2, by omega, HS2, rfl, rfl, by omega, by omega, by rw [← HK.out]; omega⟩
          case measure => simp [intOf]; omega
set_option maxRecDepth 100000 in
theorem refShorter_any (p q t : Int) (w : World) :
    Calls Try.prog 14 #[.int .i64 p, .int .i64 q, .int .i64 t] w fun e w' => e = .returned (.int .i64 (shorter p q t)) ∧ w = w' := by
  have hb := lim_bd t
  have E : shorter p q t = if good p q then lim t * q / p else lim t := rfl
  rw [E]; clear E
  obtain ⟨T, HT⟩ : ∃ T, Hid (lim t = T) := ⟨_, Lib.hid rfl⟩
  rw [HT.out] at hb ⊢
  obtain ⟨b1, b2⟩ := hb
  cases h : good p q
  · rw [if_neg (by decide)]
    have hgd := refGood_any p q
    rw [h] at hgd
    clear h
    go_enter Try.func14, Try.ntmps14
    go_wp2_with (first | (go_at_call 19; refine (within_to _ _ HT _).mono ?_; rintro e w1 ⟨rfl, rfl⟩) | (go_at_call 10; refine (hgd _).mono ?_; rintro e w1 ⟨rfl, rfl⟩))
    go_ret
    exact ⟨rfl, rfl⟩
  · rw [if_pos rfl]
    have hgd := refGood_any p q
    rw [h] at hgd
    have hu := down_bd (good_of h) b1
    obtain ⟨h1, h2, h3, h4⟩ := good_of h
    clear h
    obtain ⟨m1, m2⟩ := mul_bd (x := 1099511627776) (y := 1000) b1 (show 0 ≤ q by omega) b2 (by omega)
    have HL := fun n => Lib.hid (@le_down p q T n (by omega))
    obtain ⟨L, hL⟩ : ∃ L, T * q / p = L := ⟨_, rfl⟩
    rw [hL] at hu ⊢
    simp only [hL] at HL
    clear hL
    obtain ⟨u1, u2⟩ := hu
    go_enter Try.func14, Try.ntmps14
    go_wp2_with (first | (go_at_call 19; refine (within_to _ _ HT _).mono ?_; rintro e w1 ⟨rfl, rfl⟩) | (go_at_call 10; refine (hgd _).mono ?_; rintro e w1 ⟨rfl, rfl⟩))
    clear hgd
    go_loop [7, 8] (fun n s => ∃ (k : Nat) (N S : Int), k ≤ 41 ∧ Hid (half k = S) ∧ s = .int .i64 S ∧ n = .int .i64 N ∧ 0 ≤ N ∧ N ≤ L ∧ L < N + 2 ^ k) (fun _ s => (intOf s).toNat)
    case atStart => exact ⟨41, 0, _, by omega, Lib.hid rfl, rfl, rfl, by omega, by omega, by omega⟩
    case round =>
      obtain ⟨k, N, S, hk, HS, rfl, rfl, hN0, hN, hLk⟩ := hrel
      match k, hk, HS, hLk with
      | 0, hk, HS, hLk =>
        obtain rfl : S = 0 := HS.out.symm
        obtain rfl : N = L := by rw [Int.pow_zero] at hLk; omega
        go_wp2
        go_ret
        exact ⟨rfl, rfl⟩
      | k + 1, hk, HS, hLk =>
        have hs1 := half_succ k
        have hs2 := half_half k
        have hp1 := pow_pos k
        have hp2 := pow_le (show k ≤ 40 by omega)
        have hp3 : (2 : Int) ^ (k + 1) = 2 ^ k * 2 := Int.pow_succ _ _
        rw [HS.out] at hs1 hs2
        rw [← hs1] at hp1 hp2 hp3
        rw [hp3] at hLk
        have HK := Lib.hid hs1
        have HS2 := Lib.hid hs2.symm
        clear HS hs1 hs2 hp3
        have hp4 : S ≤ 1099511627776 := hp2
        clear hp2
        have m3 := mul_bd (x := 2199023255552) (y := 1000) (show 0 ≤ N + S by omega) (show 0 ≤ p by omega) (by omega) (by omega)
        obtain ⟨m3, m4⟩ := m3
        have hl := (HL (N + S)).out
        by_cases hlt : N + S ≤ L
        · have ht := hl.1 hlt
          clear hl HL
          go_wp2
          go_round
          case rel => exact ⟨k, N + S, S / 2, by omega, HS2, rfl, rfl, by omega, by omega, by rw [← HK.out]; omega⟩
          case measure => simp [intOf]; omega
        · have ht : ¬ (N + S) * p ≤ T * q := fun c => hlt (hl.2 c)
          clear hl HL
          go_wp2
          go_round
          case rel => exact ⟨k, N, S / 2, by omega, HS2, rfl, rfl, by omega, by omega, by rw [← HK.out]; omega⟩
          case measure => simp [intOf]; omega
/-- A rate, of any two numbers. -/
def NearIs (w : World) (e : Ending) (w' : World) : Prop := ∃ P Q : Int, e = .returned (.agg #[.int .i64 P, .int .i64 Q]) ∧ good P Q = true ∧ Gr w w'
theorem good_near (x y : Int) : good (1 + x % 200 + y % (3 * (1 + x % 200) + 1)) (1 + x % 200) = true := by
  have h1 : 0 ≤ x % 200 ∧ x % 200 < 200 := by omega
  generalize x % 200 = z at *
  have h2 := Int.emod_nonneg y (show 3 * (1 + z) + 1 ≠ 0 by omega)
  have h3 := Int.emod_lt_of_pos y (show 0 < 3 * (1 + z) + 1 by omega)
  exact good_mk (by omega)
theorem near_bd (x y : Int) : 0 ≤ y % (3 * (1 + x % 200) + 1) ∧ y % (3 * (1 + x % 200) + 1) ≤ 601 := by
  have h2 := Int.emod_nonneg y (show 3 * (1 + x % 200) + 1 ≠ 0 by omega)
  have h3 := Int.emod_lt_of_pos y (show 0 < 3 * (1 + x % 200) + 1 by omega)
  omega
theorem near_any (p q : Int) (w : World) :
    Calls Try.prog 15 #[.int .i64 p, .int .i64 q] w (NearIs w) := by
  have p0 : 0 ≤ bits .and .i64 p 65535 := (and_mask p 65535 (by decide)).1
  have p1 : bits .and .i64 p 65535 ≤ 65535 := (and_mask p 65535 (by decide)).2
  have q0 : 0 ≤ bits .and .i64 q 65535 := (and_mask q 65535 (by decide)).1
  have q1 : bits .and .i64 q 65535 ≤ 65535 := (and_mask q 65535 (by decide)).2
  obtain ⟨n0, n1⟩ := near_bd (bits .and .i64 q 65535) (bits .and .i64 p 65535)
  go_enter Try.func15, Try.ntmps15
  go_wp2
  exact bodyPost_ret (v := .agg #[.int .i64 (1 + bits .and .i64 q 65535 % 200 + bits .and .i64 p 65535 % (3 * (1 + bits .and .i64 q 65535 % 200) + 1)), .int .i64 (1 + bits .and .i64 q 65535 % 200)]) (by simp [results, Try.results15, go_sem]) rfl ⟨_, _, rfl, good_near _ _, (Gr.refl _).alloc _⟩
theorem awake4 (w : World) : Calls Try.prog 8 #[] w fun e w' => e = .returned (.bool true) ∧ Gr w w' := by
  have l1 := longer_any 11 10 20
  have l2 := longer_any 11 10 21
  have s1 := shorter_any 11 10 20
  rw [show longer 11 10 20 = 22 by decide +kernel] at l1
  rw [show longer 11 10 21 = 24 by decide +kernel] at l2
  rw [show shorter 11 10 20 = 18 by decide +kernel] at s1
  go_enter Try.func8, Try.ntmps8
  go_wp2_with fail
  refine (l1 _).mono ?_
  rintro e w1 ⟨rfl, hg1⟩
  have c0 := hg1.own.1 0 _ rfl
  have c1 := hg1.own.1 1 _ rfl
  go_wp2_with fail
  refine (l2 _).mono ?_
  rintro e w2 ⟨rfl, hg2⟩
  have d0 := hg2.cell c0
  have d1 := hg2.cell c1
  go_wp2_with fail
  refine (s1 _).mono ?_
  rintro e w3 ⟨rfl, hg3⟩
  have f0 := hg3.cell d0
  have f1 := hg3.cell d1
  go_wp2_with fail
  refine (check_ok 11 10 _ (by decide +kernel)).mono ?_
  rintro e w4 ⟨rfl, hg4⟩
  go_wp2
  go_ret
  exact ⟨rfl, (((((Gr.refl _).alloc _).trans hg1).trans hg2).trans hg3).trans hg4⟩
end Go.Proofs.Ytgbicckclepplaa
