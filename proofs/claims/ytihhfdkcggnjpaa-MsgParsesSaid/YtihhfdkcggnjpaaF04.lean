import Derived.Test.YtihhfdkcggnjpaaC00
import Derived.Test.YtihhfdkcggnjpaaM04
import Derived.WalkKit
import Derived.ProofKit
import Derived.LoopTactic
import Derived.Outline
import Derived.WalkSpells
import Derived.WalkLawsBesides
import Derived.Lib.Hide
import Derived.Deep.LoopGhost
import Derived.Deep.QuietTactic
import Derived.BigQuiet
import Derived.ShutString
import Derived.IntWalk
namespace Go.Proofs.Ytihhfdkcggnjpaa
open Go.ChangeShapes Go.WideShapes Go.ChangeAt Go.RowKit
open Rates
set_option linter.unusedVariables false
theorem and_mask (a : Int) (m : Nat) (hm : m < 9223372036854775808) : 0 ≤ bits .and .i64 a (m : Int) ∧ bits .and .i64 a (m : Int) ≤ m := by
  have e : (BitVec.ofInt 64 (m : Int)).toNat = m := by
    rw [BitVec.ofInt_natCast, BitVec.toNat_ofNat]; exact Nat.mod_eq_of_lt (by omega)
  have hx : (BitVec.ofInt 64 a &&& BitVec.ofInt 64 (m : Int)).toNat ≤ m := by
    rw [BitVec.toNat_and, e]; exact Nat.and_le_right
  have e3 := IntWalk.i64_in ((BitVec.ofInt 64 a &&& BitVec.ofInt 64 (m : Int)).toNat : Int) ⟨by omega, by omega⟩
  have e2 : bits .and .i64 a (m : Int) = ((BitVec.ofInt 64 a &&& BitVec.ofInt 64 (m : Int)).toNat : Int) := e3
  omega
theorem limited_any (t : Int) (w : World) :
    Calls Try.prog 148 #[.int .i64 t] w fun e w' => e = .returned (.int .i64 (lim t)) ∧ w = w' := by
  have hc : t < 0 ∧ lim t = 0 ∨ 0 ≤ t ∧ t ≤ 1099511627776 ∧ lim t = t ∨ 1099511627776 < t ∧ lim t = 1099511627776 := by unfold lim; omega
  rcases hc with ⟨h1, h2⟩ | ⟨h1, h3, h2⟩ | ⟨h1, h2⟩
  all_goals
    rw [h2]; clear h2
    go_enter Try.func148, Try.ntmps148
    go_wp2
    go_ret
    exact ⟨rfl, rfl⟩
theorem within_any (t : Int) (w : World) :
    Calls Try.prog 140 #[.int .i64 t] w fun e w' => e = .returned (.int .i64 (lim t)) ∧ w = w' := by
  have hc : t < 0 ∧ lim t = 0 ∨ 0 ≤ t ∧ t ≤ 1099511627776 ∧ lim t = t ∨ 1099511627776 < t ∧ lim t = 1099511627776 := by unfold lim; omega
  rcases hc with ⟨h1, h2⟩ | ⟨h1, h3, h2⟩ | ⟨h1, h2⟩
  all_goals
    rw [h2]; clear h2
    go_enter Try.func140, Try.ntmps140
    go_wp2
    go_ret
    exact ⟨rfl, rfl⟩
theorem check_ok (p q : Int) (w : World) (h : good p q = true) :
    Calls Try.prog 147 #[.agg #[.int .i64 p, .int .i64 q]] w fun e w' => e = .returned (.int .i64 0) ∧ Gr w w' := by
  obtain ⟨h1, h2, h3, h4⟩ := good_of h
  clear h
  go_enter Try.func147, Try.ntmps147
  go_wp2
  go_ret
  exact ⟨rfl, (Gr.refl _).alloc _⟩
theorem bad_ways {p q : Int} (h : good p q = false) : q < 1 ∨ 1 ≤ q ∧ p < q ∨ 1 ≤ q ∧ q ≤ p ∧ 1000 < p ∨ 1 ≤ q ∧ q ≤ p ∧ p ≤ 1000 ∧ 4 * q < p := by
  have := good_not h; omega
theorem check_bad (p q : Int) (w : World) (h : good p q = false) :
    Calls Try.prog 147 #[.agg #[.int .i64 p, .int .i64 q]] w fun e w' => e = .returned (.int .i64 12) ∧ Gr w w' := by
  have h' := bad_ways h
  clear h
  rcases h' with h1 | ⟨h1, h2⟩ | ⟨h1, h2, h3⟩ | ⟨h1, h2, h3, h4⟩
  all_goals
    go_enter Try.func147, Try.ntmps147
    go_wp2
    go_ret
    exact ⟨rfl, (Gr.refl _).alloc _⟩
theorem refGood_any (p q : Int) (w : World) :
    Calls Try.prog 141 #[.int .i64 p, .int .i64 q] w fun e w' => e = .returned (.bool (good p q)) ∧ w = w' := by
  cases h : good p q
  · have h' := bad_ways h
    clear h
    rcases h' with h1 | ⟨h1, h2⟩ | ⟨h1, h2, h3⟩ | ⟨h1, h2, h3, h4⟩
    all_goals
      go_enter Try.func141, Try.ntmps141
      go_wp2
      go_ret
      exact ⟨by simp <;> omega, rfl⟩
  · obtain ⟨h1, h2, h3, h4⟩ := good_of h
    clear h
    go_enter Try.func141, Try.ntmps141
    go_wp2
    go_ret
    exact ⟨by simp <;> omega, rfl⟩
theorem limited_to (t T : Int) (h : Hid (lim t = T)) (w : World) :
    Calls Try.prog 148 #[.int .i64 t] w fun e w' => e = .returned (.int .i64 T) ∧ w = w' := by
  have := limited_any t w; rwa [h.out] at this
theorem within_to (t T : Int) (h : Hid (lim t = T)) (w : World) :
    Calls Try.prog 140 #[.int .i64 t] w fun e w' => e = .returned (.int .i64 T) ∧ w = w' := by
  have := within_any t w; rwa [h.out] at this
theorem longer_any (p q t : Int) (w : World) :
    Calls Try.prog 77 #[.agg #[.int .i64 p, .int .i64 q], .int .i64 t] w fun e w' => e = .returned (.int .i64 (longer p q t)) ∧ Gr w w' := by
  have hb := lim_bd t
  have E : longer p q t = if good p q then (lim t * p + q - 1) / q else lim t := rfl
  rw [E]; clear E
  obtain ⟨T, HT⟩ : ∃ T, Hid (lim t = T) := ⟨_, Lib.hid rfl⟩
  rw [HT.out] at hb ⊢
  obtain ⟨b1, b2⟩ := hb
  cases h : good p q
  · rw [if_neg (by decide)]
    go_enter Try.func77, Try.ntmps77
    go_wp2_with (first | (go_at_call 148; refine (limited_to _ _ HT _).mono ?_; rintro e w1 ⟨rfl, rfl⟩) | (go_at_call 147; refine (check_bad _ _ _ h).mono ?_; rintro e w1 ⟨rfl, hg⟩))
    go_ret
    exact ⟨rfl, ((Gr.refl _).alloc _).trans hg⟩
  · rw [if_pos rfl]
    obtain ⟨h1, h2, h3, h4⟩ := good_of h
    obtain ⟨m1, m2⟩ := mul_bd (x := 1099511627776) (y := 1000) b1 (show 0 ≤ p by omega) b2 h3
    go_enter Try.func77, Try.ntmps77
    go_wp2_with (first | (go_at_call 148; refine (limited_to _ _ HT _).mono ?_; rintro e w1 ⟨rfl, rfl⟩) | (go_at_call 147; refine (check_ok _ _ _ h).mono ?_; rintro e w1 ⟨rfl, hg⟩; have c0 := hg.own.1 0 _ rfl; have c1 := hg.own.1 1 _ rfl))
    go_ret
    exact ⟨rfl, ((Gr.refl _).alloc _).trans hg⟩
theorem later_any (t b : Int) (w : World) :
    Calls Try.prog 80 #[.int .i64 t, .int .i64 b] w fun e w' => e = .returned (.int .i64 (lim (lim t + lim b))) ∧ w = w' := by
  obtain ⟨T, HT⟩ : ∃ T, Hid (lim t = T) := ⟨_, Lib.hid rfl⟩
  obtain ⟨B, HB⟩ : ∃ B, Hid (lim b = B) := ⟨_, Lib.hid rfl⟩
  have h1 := lim_bd t
  have h2 := lim_bd b
  rw [HT.out] at h1 ⊢
  rw [HB.out] at h2 ⊢
  obtain ⟨h3, h4⟩ := h1
  obtain ⟨h5, h6⟩ := h2
  go_enter Try.func80, Try.ntmps80
  go_wp2_with fail
  refine (limited_to t T HT _).mono ?_
  rintro e w1 ⟨rfl, rfl⟩
  go_wp2_with fail
  refine (limited_to b B HB _).mono ?_
  rintro e w1 ⟨rfl, rfl⟩
  go_wp2_with fail
  refine (limited_any _ _).mono ?_
  rintro e w1 ⟨rfl, rfl⟩
  go_wp2
  go_ret
  exact ⟨rfl, rfl⟩
end Go.Proofs.Ytihhfdkcggnjpaa
