/- Plain mathematics: the least of all sets of further nodes. No program is imported here. -/
import Derived.Test.YtegapeplbincnaaDoorM09b
namespace Go.Proofs.YtegapeplbincnaaDoor.Grids
set_option linter.unusedVariables false
theorem cnt_high {x n : Nat} (hx : x < 2 ^ n) : ∀ d, cnt x.testBit (n + d) = cnt x.testBit n
  | 0 => rfl
  | d + 1 => by
    rw [← Nat.add_assoc]
    show cnt x.testBit (n + d) + (if x.testBit (n + d) then 1 else 0) = _
    rw [cnt_high hx d, Nat.testBit_lt_two_pow (Nat.lt_of_lt_of_le hx (Nat.pow_le_pow_right (n := 2) (by decide) (Nat.le_add_right n d)))]
    rfl
theorem cnt_32 {x n : Nat} (hx : x < 2 ^ n) (hn : n ≤ 32) : cnt x.testBit 32 = cnt x.testBit n := by
  have := cnt_high hx (32 - n)
  rwa [show n + (32 - n) = 32 by omega] at this
/-- The least size of those sets below t that make a quorum; 99 if there is none. -/
def Best (R per z nodes set t best : Nat) : Prop :=
  (best = 99 ∨ ∃ a, a < t ∧ isQ R per z nodes (set ||| a) = true ∧ cnt a.testBit 32 = best) ∧ ∀ a, a < t → isQ R per z nodes (set ||| a) = true → best ≤ cnt a.testBit 32
theorem best_start (R per z nodes set : Nat) : Best R per z nodes set 0 99 := ⟨.inl rfl, fun a h => by omega⟩
theorem best_no {R per z nodes set t best : Nat} (h : Best R per z nodes set t best) (hq : isQ R per z nodes (set ||| t) = false) : Best R per z nodes set (t + 1) best := by
  refine ⟨h.1.imp id fun ⟨a, h1, h2, h3⟩ => ⟨a, by omega, h2, h3⟩, fun a ha hqa => ?_⟩
  rcases Nat.lt_or_ge a t with h1 | h1
  · exact h.2 a h1 hqa
  · obtain rfl : a = t := by omega
    rw [hq] at hqa; cases hqa
theorem best_yes {R per z nodes set t best : Nat} (h : Best R per z nodes set t best) (hq : isQ R per z nodes (set ||| t) = true) : Best R per z nodes set (t + 1) (min best (cnt t.testBit 32)) := by
  refine ⟨?_, fun a ha hqa => ?_⟩
  · rcases Nat.lt_or_ge (cnt t.testBit 32) best with h1 | h1
    · rw [Nat.min_eq_right (by omega)]
      exact .inr ⟨t, by omega, hq, rfl⟩
    · rw [Nat.min_eq_left h1]
      exact h.1.imp id fun ⟨a, h1, h2, h3⟩ => ⟨a, by omega, h2, h3⟩
  · rcases Nat.lt_or_ge a t with h1 | h1
    · exact Nat.le_trans (Nat.min_le_left _ _) (h.2 a h1 hqa)
    · obtain rfl : a = t := by omega
      exact Nat.min_le_right _ _
theorem best_end {R per z nodes set : Nat} (hR : R ≤ 4) (hz : z ≤ R) (hn : nodes ≤ 4) (hnp : nodes ≤ per) (h9 : R * per ≤ 9) (best : Nat) (h : Best R per z nodes set (2 ^ (R * per)) best) : least R per z nodes set = best := by
  obtain ⟨m, hm, hq, hc⟩ := @least_meets R per z nodes set hR hz hn hnp
  have h1 := h.2 m hm hq
  rw [cnt_32 hm (by omega), hc] at h1
  have h16 := @least_le R per z nodes set hR hz hn
  rcases h.1 with e | ⟨a, ha, hqa, hca⟩
  · omega
  · have := least_bound hqa
    rw [cnt_32 ha (by omega)] at hca
    omega
end Go.Proofs.YtegapeplbincnaaDoor.Grids
