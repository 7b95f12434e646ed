/- Plain mathematics for rates: the nearest times, and the search by halves. No program is imported here. -/
import Derived.WalkKit
namespace Go.Proofs.Ytihhfdkcggnjpaa.Rates
/-- The time that is nearest to t. -/
def lim (t : Int) : Int := max 0 (min t 1099511627776)
theorem lim_bd (t : Int) : 0 ≤ lim t ∧ lim t ≤ 1099511627776 := by unfold lim; omega
theorem lim_self {t : Int} (h0 : 0 ≤ t) (h1 : t ≤ 1099511627776) : lim t = t := by unfold lim; omega
theorem lim_ne (t : Int) : (t = lim t) ↔ (0 ≤ t ∧ t ≤ 1099511627776) := by unfold lim; omega
/-- What may be a rate. -/
def good (p q : Int) : Bool := decide (1 ≤ q ∧ q ≤ p ∧ p ≤ 1000 ∧ p ≤ 4 * q)
theorem good_of {p q : Int} (h : good p q = true) : 1 ≤ q ∧ q ≤ p ∧ p ≤ 1000 ∧ p ≤ 4 * q := by simpa [good] using h
theorem good_mk {p q : Int} (h : 1 ≤ q ∧ q ≤ p ∧ p ≤ 1000 ∧ p ≤ 4 * q) : good p q = true := by simpa [good] using h
theorem good_not {p q : Int} (h : good p q = false) : ¬ (1 ≤ q ∧ q ≤ p ∧ p ≤ 1000 ∧ p ≤ 4 * q) := by simpa [good] using h
def longer (p q t : Int) : Int := if good p q then (lim t * p + q - 1) / q else lim t
def shorter (p q t : Int) : Int := if good p q then lim t * q / p else lim t
def fits (p q a b : Int) : Bool := good p q && decide (0 ≤ a ∧ a ≤ 1099511627776 ∧ 0 ≤ b ∧ b ≤ 1099511627776) && decide (a * q ≤ b * p ∧ b * q ≤ a * p)
theorem mul_bd {a b x y : Int} (a0 : 0 ≤ a) (b0 : 0 ≤ b) (ha : a ≤ x) (hb : b ≤ y) : 0 ≤ a * b ∧ a * b ≤ x * y :=
  ⟨Int.mul_nonneg a0 b0, Int.mul_le_mul ha hb b0 (Int.le_trans a0 ha)⟩
/-- The least n whose n q is not below t p. -/
theorem up_le {p q t n : Int} (hq : 0 < q) : (t * p + q - 1) / q ≤ n ↔ t * p ≤ n * q := by
  rw [← Int.lt_add_one_iff, Int.ediv_lt_iff_lt_mul hq, Int.add_mul]; omega
theorem lt_up {p q t n : Int} (hq : 0 < q) : n < (t * p + q - 1) / q ↔ n * q < t * p := by
  have := @up_le p q t n hq; omega
theorem le_down {p q t n : Int} (hp : 0 < p) : n ≤ t * q / p ↔ n * p ≤ t * q := Int.le_ediv_iff_mul_le hp
theorem up_bd {p q t : Int} (h : 1 ≤ q ∧ q ≤ p ∧ p ≤ 1000 ∧ p ≤ 4 * q) (h0 : 0 ≤ t) : t ≤ (t * p + q - 1) / q ∧ (t * p + q - 1) / q ≤ 4 * t := by
  obtain ⟨h1, h2, h3, h4⟩ := h
  constructor
  · rw [Int.le_ediv_iff_mul_le (by omega)]
    have := Int.mul_le_mul_of_nonneg_left h2 h0
    omega
  · rw [up_le (by omega), show 4 * t * q = t * (4 * q) by rw [Int.mul_comm 4 t, Int.mul_assoc]]
    exact Int.mul_le_mul_of_nonneg_left h4 h0
theorem down_bd {p q t : Int} (h : 1 ≤ q ∧ q ≤ p ∧ p ≤ 1000 ∧ p ≤ 4 * q) (h0 : 0 ≤ t) : 0 ≤ t * q / p ∧ t * q / p ≤ t := by
  obtain ⟨h1, h2, h3, h4⟩ := h
  constructor
  · exact Int.ediv_nonneg (Int.mul_nonneg h0 (by omega)) (by omega)
  · have := Int.mul_le_mul_of_nonneg_left h2 h0
    have h5 : t * q / p < t + 1 := by rw [Int.ediv_lt_iff_lt_mul (by omega), Int.add_mul]; omega
    omega
/-- The step of the k-th half: 2^(k-1), then 0. -/
def half (k : Nat) : Int := 2 ^ k / 2
theorem half_zero : half 0 = 0 := rfl
theorem half_succ (k : Nat) : half (k + 1) = 2 ^ k := by unfold half; rw [Int.pow_succ]; omega
theorem half_half (k : Nat) : half (k + 1) / 2 = half k := by rw [half_succ]; rfl
theorem pow_pos (k : Nat) : (1 : Int) ≤ 2 ^ k := by
  have := Int.pow_pos (n := 2) (m := k) (by decide); omega
theorem pow_le {k n : Nat} (h : k ≤ n) : (2 : Int) ^ k ≤ 2 ^ n := by
  have := Nat.pow_le_pow_right (n := 2) (by decide) h
  have e : ∀ j : Nat, (2 : Int) ^ j = ((2 ^ j : Nat) : Int) := fun j => by simp
  rw [e, e]; omega
theorem longer_in {p q t : Int} (h : good p q = true) (h0 : 0 ≤ t) (h1 : t ≤ 1099511627776) : longer p q t = (t * p + q - 1) / q := by
  unfold longer; rw [h, if_pos rfl, lim_self h0 h1]
theorem shorter_in {p q t : Int} (h : good p q = true) (h0 : 0 ≤ t) (h1 : t ≤ 1099511627776) : shorter p q t = t * q / p := by
  unfold shorter; rw [h, if_pos rfl, lim_self h0 h1]
/-- What holds of any rate and any two times up to 2^38. -/
theorem rises {p q t d : Int} (h : good p q = true) (h0 : 0 ≤ t) (h1 : t ≤ 274877906944) (d0 : 0 ≤ d) (d1 : d ≤ 274877906944) :
    ∃ l s sl ls l2 s2 : Int, longer p q t = l ∧ shorter p q t = s ∧ shorter p q l = sl ∧ longer p q s = ls ∧ longer p q (t + d) = l2 ∧ shorter p q (t + d) = s2 ∧ fits p q t t = true ∧
      t ≤ l ∧ l ≤ 1099511627776 ∧ 0 ≤ s ∧ s ≤ t ∧ t ≤ sl ∧ ls ≤ t ∧ l ≤ l2 ∧ s ≤ s2 ∧ (l - 1) * q < t * p := by
  have hg := good_of h
  obtain ⟨q1, q2, q3, q4⟩ := good_of h
  obtain ⟨u1, u2⟩ := up_bd hg h0
  obtain ⟨s1, s2⟩ := down_bd hg h0
  have e1 := longer_in h h0 (show t ≤ 1099511627776 by omega)
  have e2 := shorter_in h h0 (show t ≤ 1099511627776 by omega)
  have m := Int.mul_le_mul_of_nonneg_right (show t ≤ t + d by omega) (show 0 ≤ p by omega)
  have m' := Int.mul_le_mul_of_nonneg_right (show t ≤ t + d by omega) (show 0 ≤ q by omega)
  have A1 := (@up_le p q t ((t * p + q - 1) / q) (by omega)).1 (Int.le_refl _)
  have A2 := (@le_down p q t (t * q / p) (by omega)).1 (Int.le_refl _)
  have A3 := (@up_le p q (t + d) (((t + d) * p + q - 1) / q) (by omega)).1 (Int.le_refl _)
  refine ⟨_, _, _, _, _, _, e1, e2, shorter_in h (by omega) (by omega), longer_in h (by omega) (by omega), longer_in h (by omega) (by omega), shorter_in h (by omega) (by omega), ?_, u1, by omega, s1, s2, ?_, ?_, ?_, ?_, ?_⟩
  · have hq := Int.mul_le_mul_of_nonneg_left q2 h0
    unfold fits
    rw [h, decide_eq_true ⟨h0, (by omega : t ≤ 1099511627776), h0, (by omega : t ≤ 1099511627776)⟩, decide_eq_true ⟨hq, hq⟩]; rfl
  · exact (le_down (by omega)).2 A1
  · exact (up_le (by omega)).2 A2
  · exact (up_le (by omega)).2 (by omega)
  · exact (le_down (by omega)).2 (by omega)
  · exact (lt_up (by omega)).1 (by omega)
/-- The ways of two times that are not both small, and their sum within the range. -/
inductive LW (t b n : Int) : Prop
  | a : t < 0 → b < 0 → n = 0 → LW t b n
  | b : t < 0 → 0 ≤ b → b ≤ 1099511627776 → n = b → LW t b n
  | c : t < 0 → 1099511627776 < b → n = 1099511627776 → LW t b n
  | d : 549755813888 < t → t < 1099511627776 → 0 ≤ n → n ≤ 1099511627776 → LW t b n
  | e : 1099511627776 ≤ t → n = 1099511627776 → LW t b n
  | f : t = 0 → b < 0 → n = 0 → LW t b n
  | g : 0 < t → t ≤ 549755813888 → b < 0 → 0 ≤ n → n ≤ 1099511627776 → LW t b n
  | h : t = 0 → 549755813888 < b → b ≤ 1099511627776 → n = b → LW t b n
  | i : t = 0 → 1099511627776 < b → n = 1099511627776 → LW t b n
  | j : 0 < t → t ≤ 549755813888 → 549755813888 < b → 0 ≤ n → n ≤ 1099511627776 → LW t b n
theorem lim_ways (t : Int) : t < 0 ∧ lim t = 0 ∨ 0 ≤ t ∧ t ≤ 1099511627776 ∧ lim t = t ∨ 1099511627776 < t ∧ lim t = 1099511627776 := by unfold lim; omega
theorem later_ways (t b n : Int) (hn : lim (lim t + lim b) = n) (h : ¬ (0 ≤ t ∧ t ≤ 549755813888 ∧ 0 ≤ b ∧ b ≤ 549755813888)) : LW t b n := by
  have hb := lim_bd (lim t + lim b)
  rw [hn] at hb
  have hu := lim_ways (lim t + lim b)
  rw [hn] at hu
  rcases lim_ways t with ⟨t1, t2⟩ | ⟨t1, t3, t2⟩ | ⟨t1, t2⟩ <;> rcases lim_ways b with ⟨b1, b2⟩ | ⟨b1, b3, b2⟩ | ⟨b1, b2⟩ <;> rw [t2, b2] at hu <;> clear hn t2 b2
  · exact .a t1 b1 (by omega)
  · exact .b t1 b1 b3 (by omega)
  · exact .c t1 b1 (by omega)
  · by_cases c : t = 0
    · exact .f c b1 (by omega)
    · by_cases c2 : t ≤ 549755813888
      · exact .g (by omega) c2 b1 hb.1 hb.2
      · by_cases c3 : t < 1099511627776
        · exact .d (by omega) c3 hb.1 hb.2
        · exact .e (by omega) (by omega)
  · by_cases c2 : t ≤ 549755813888
    · by_cases c : t = 0
      · exact .h c (by omega) b3 (by omega)
      · exact .j (by omega) c2 (by omega) hb.1 hb.2
    · by_cases c3 : t < 1099511627776
      · exact .d (by omega) c3 hb.1 hb.2
      · exact .e (by omega) (by omega)
  · by_cases c2 : t ≤ 549755813888
    · by_cases c : t = 0
      · exact .i c b1 (by omega)
      · exact .j (by omega) c2 (by omega) hb.1 hb.2
    · by_cases c3 : t < 1099511627776
      · exact .d (by omega) c3 hb.1 hb.2
      · exact .e (by omega) (by omega)
  · exact .e (by omega) (by omega)
  · exact .e (by omega) (by omega)
  · exact .e (by omega) (by omega)
end Go.Proofs.Ytihhfdkcggnjpaa.Rates
