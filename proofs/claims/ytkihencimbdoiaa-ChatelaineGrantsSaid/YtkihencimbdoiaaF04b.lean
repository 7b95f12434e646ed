import Derived.Test.YtkihencimbdoiaaF04
import Derived.WalkKit
import Derived.ProofKit
import Derived.LoopTactic
import Derived.Outline
import Derived.WalkSpells
import Derived.WalkLawsBesides
import Derived.Lib.Hide
import Derived.Deep.LoopGhost
import Derived.Deep.QuietTactic
import Derived.BigQuiet
import Derived.ShutString
import Derived.IntWalk
namespace Go.Proofs.Ytkihencimbdoiaa
open Go.ChangeShapes Go.WideShapes Go.ChangeAt Go.RowKit
open Rates
set_option linter.unusedVariables false
theorem fits_bad (p q a b : Int) (w : World) (h : good p q = false) :
    Calls Try.prog 39 #[.agg #[.int .i64 p, .int .i64 q], .int .i64 a, .int .i64 b] w fun e w' => e = .returned (.bool false) ∧ Gr w w' := by
  go_enter Try.func39, Try.ntmps39
  go_wp2_with (first | (go_at_call 88; refine (check_bad _ _ _ h).mono ?_; rintro e w1 ⟨rfl, hg⟩))
  go_ret
  exact ⟨rfl, ((Gr.refl _).alloc _).trans hg⟩
theorem fits_out (p q a b A B : Int) (w : World) (h : good p q = true) (HA : Hid (lim a = A)) (HB : Hid (lim b = B)) (hx : (a != A) = true ∨ (a != A) = false ∧ (b != B) = true) :
    Calls Try.prog 39 #[.agg #[.int .i64 p, .int .i64 q], .int .i64 a, .int .i64 b] w fun e w' => e = .returned (.bool false) ∧ Gr w w' := by
  rcases hx with h1 | ⟨h1, h2⟩
  · go_enter Try.func39, Try.ntmps39
    go_wp2_with (first | (go_at_call 88; refine (check_ok _ _ _ h).mono ?_; rintro e w1 ⟨rfl, hg⟩))
    refine (limited_to a A HA _).mono ?_
    rintro e w2 ⟨rfl, rfl⟩
    go_wp2
    go_ret
    exact ⟨rfl, ((Gr.refl _).alloc _).trans hg⟩
  · go_enter Try.func39, Try.ntmps39
    go_wp2_with (first | (go_at_call 88; refine (check_ok _ _ _ h).mono ?_; rintro e w1 ⟨rfl, hg⟩))
    refine (limited_to a A HA _).mono ?_
    rintro e w2 ⟨rfl, rfl⟩
    go_wp2_with fail
    refine (limited_to b B HB _).mono ?_
    rintro e w2 ⟨rfl, rfl⟩
    go_wp2
    go_ret
    exact ⟨rfl, ((Gr.refl _).alloc _).trans hg⟩
theorem fits_in (p q a b : Int) (w : World) (h : good p q = true) (a0 : 0 ≤ a) (a1 : a ≤ 1099511627776) (b0 : 0 ≤ b) (b1 : b ≤ 1099511627776) :
    Calls Try.prog 39 #[.agg #[.int .i64 p, .int .i64 q], .int .i64 a, .int .i64 b] w fun e w' => e = .returned (.bool (decide (a * q ≤ b * p ∧ b * q ≤ a * p))) ∧ Gr w w' := by
  obtain ⟨h1, h2, h3, h4⟩ := good_of h
  have HA := Lib.hid (lim_self a0 a1)
  have HB := Lib.hid (lim_self b0 b1)
  obtain ⟨m1, m2⟩ := mul_bd (x := 1099511627776) (y := 1000) a0 (show 0 ≤ q by omega) a1 (by omega)
  obtain ⟨m3, m4⟩ := mul_bd (x := 1099511627776) (y := 1000) b0 (show 0 ≤ p by omega) b1 (by omega)
  obtain ⟨m5, m6⟩ := mul_bd (x := 1099511627776) (y := 1000) b0 (show 0 ≤ q by omega) b1 (by omega)
  obtain ⟨m7, m8⟩ := mul_bd (x := 1099511627776) (y := 1000) a0 (show 0 ≤ p by omega) a1 (by omega)
  have t1 : (a != a) = false := by simp
  have t2 : (b != b) = false := by simp
  by_cases c1 : a * q ≤ b * p
  · by_cases c2 : b * q ≤ a * p
    · have E := Lib.hid (show decide (a * q ≤ b * p ∧ b * q ≤ a * p) = true by simp [c1, c2])
      rw [E.out]
      go_enter Try.func39, Try.ntmps39
      go_wp2_with (first | (go_at_call 88; refine (check_ok _ _ _ h).mono ?_; rintro e w1 ⟨rfl, hg⟩; have z0 := hg.own.1 0 _ rfl; have z1 := hg.own.1 1 _ rfl))
      refine (limited_to a a HA _).mono ?_
      rintro e w2 ⟨rfl, rfl⟩
      go_wp2_with fail
      refine (limited_to b b HB _).mono ?_
      rintro e w2 ⟨rfl, rfl⟩
      go_wp2
      go_ret
      exact ⟨rfl, ((Gr.refl _).alloc _).trans hg⟩
    · have E := Lib.hid (show decide (a * q ≤ b * p ∧ b * q ≤ a * p) = false by simp [c2])
      rw [E.out]
      go_enter Try.func39, Try.ntmps39
      go_wp2_with (first | (go_at_call 88; refine (check_ok _ _ _ h).mono ?_; rintro e w1 ⟨rfl, hg⟩; have z0 := hg.own.1 0 _ rfl; have z1 := hg.own.1 1 _ rfl))
      refine (limited_to a a HA _).mono ?_
      rintro e w2 ⟨rfl, rfl⟩
      go_wp2_with fail
      refine (limited_to b b HB _).mono ?_
      rintro e w2 ⟨rfl, rfl⟩
      go_wp2
      go_ret
      exact ⟨by first | rfl | simp [c2], ((Gr.refl _).alloc _).trans hg⟩
  · have E := Lib.hid (show decide (a * q ≤ b * p ∧ b * q ≤ a * p) = false by simp [c1])
    rw [E.out]
    go_enter Try.func39, Try.ntmps39
    go_wp2_with (first | (go_at_call 88; refine (check_ok _ _ _ h).mono ?_; rintro e w1 ⟨rfl, hg⟩; have z0 := hg.own.1 0 _ rfl; have z1 := hg.own.1 1 _ rfl))
    refine (limited_to a a HA _).mono ?_
    rintro e w2 ⟨rfl, rfl⟩
    go_wp2_with fail
    refine (limited_to b b HB _).mono ?_
    rintro e w2 ⟨rfl, rfl⟩
    go_wp2
    go_ret
    exact ⟨rfl, ((Gr.refl _).alloc _).trans hg⟩
theorem fits_any (p q a b : Int) (w : World) :
    Calls Try.prog 39 #[.agg #[.int .i64 p, .int .i64 q], .int .i64 a, .int .i64 b] w fun e w' => e = .returned (.bool (fits p q a b)) ∧ Gr w w' := by
  cases h : good p q
  · have E : fits p q a b = false := by unfold fits; rw [h]; rfl
    rw [E]; exact fits_bad p q a b w h
  · by_cases hr : 0 ≤ a ∧ a ≤ 1099511627776 ∧ 0 ≤ b ∧ b ≤ 1099511627776
    · have E : fits p q a b = decide (a * q ≤ b * p ∧ b * q ≤ a * p) := by unfold fits; rw [h, decide_eq_true hr]; rfl
      rw [E]; exact fits_in p q a b w h hr.1 hr.2.1 hr.2.2.1 hr.2.2.2
    · have E : fits p q a b = false := by unfold fits; rw [h, decide_eq_false hr]; rfl
      rw [E]
      refine fits_out p q a b _ _ w h (Lib.hid rfl) (Lib.hid rfl) ?_
      simp only [bne_iff_ne, ne_eq, bne_eq_false_iff_eq]
      have h1 := lim_ne a
      have h2 := lim_ne b
      omega
/-- A rate, of any two numbers. -/
def NearIs (w : World) (e : Ending) (w' : World) : Prop := ∃ P Q : Int, e = .returned (.agg #[.int .i64 P, .int .i64 Q]) ∧ good P Q = true ∧ Gr w w'
theorem good_near (x y : Int) : good (1 + x % 200 + y % (3 * (1 + x % 200) + 1)) (1 + x % 200) = true := by
  have h1 : 0 ≤ x % 200 ∧ x % 200 < 200 := by omega
  generalize x % 200 = z at *
  have h2 := Int.emod_nonneg y (show 3 * (1 + z) + 1 ≠ 0 by omega)
  have h3 := Int.emod_lt_of_pos y (show 0 < 3 * (1 + z) + 1 by omega)
  exact good_mk (by omega)
theorem near_bd (x y : Int) : 0 ≤ y % (3 * (1 + x % 200) + 1) ∧ y % (3 * (1 + x % 200) + 1) ≤ 601 := by
  have h2 := Int.emod_nonneg y (show 3 * (1 + x % 200) + 1 ≠ 0 by omega)
  have h3 := Int.emod_lt_of_pos y (show 0 < 3 * (1 + x % 200) + 1 by omega)
  omega
theorem near_any (p q : Int) (w : World) :
    Calls Try.prog 37 #[.int .i64 p, .int .i64 q] w (NearIs w) := by
  have p0 : 0 ≤ bits .and .i64 p 65535 := (and_mask p 65535 (by decide)).1
  have p1 : bits .and .i64 p 65535 ≤ 65535 := (and_mask p 65535 (by decide)).2
  have q0 : 0 ≤ bits .and .i64 q 65535 := (and_mask q 65535 (by decide)).1
  have q1 : bits .and .i64 q 65535 ≤ 65535 := (and_mask q 65535 (by decide)).2
  obtain ⟨n0, n1⟩ := near_bd (bits .and .i64 q 65535) (bits .and .i64 p 65535)
  go_enter Try.func37, Try.ntmps37
  go_wp2
  exact bodyPost_ret (v := .agg #[.int .i64 (1 + bits .and .i64 q 65535 % 200 + bits .and .i64 p 65535 % (3 * (1 + bits .and .i64 q 65535 % 200) + 1)), .int .i64 (1 + bits .and .i64 q 65535 % 200)]) (by simp [results, Try.results37, go_sem]) rfl ⟨_, _, rfl, good_near _ _, (Gr.refl _).alloc _⟩
end Go.Proofs.Ytkihencimbdoiaa
