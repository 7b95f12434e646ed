/- Plain mathematics for rates: what two clocks that fit have in common. No program is imported here. -/
import Derived.Test.YtkihencimbdoiaaM04
namespace Go.Proofs.Ytkihencimbdoiaa.Rates
theorem fits_symm (p q a b : Int) : fits p q b a = fits p q a b := by
  unfold fits
  have e1 : (0 ≤ b ∧ b ≤ 1099511627776 ∧ 0 ≤ a ∧ a ≤ 1099511627776) ↔ (0 ≤ a ∧ a ≤ 1099511627776 ∧ 0 ≤ b ∧ b ≤ 1099511627776) := ⟨fun h => ⟨h.2.2.1, h.2.2.2, h.1, h.2.1⟩, fun h => ⟨h.2.2.1, h.2.2.2, h.1, h.2.1⟩⟩
  rw [show decide (0 ≤ b ∧ b ≤ 1099511627776 ∧ 0 ≤ a ∧ a ≤ 1099511627776) = decide (0 ≤ a ∧ a ≤ 1099511627776 ∧ 0 ≤ b ∧ b ≤ 1099511627776) from decide_eq_decide.2 e1,
    show decide (b * q ≤ a * p ∧ a * q ≤ b * p) = decide (a * q ≤ b * p ∧ b * q ≤ a * p) from decide_eq_decide.2 And.comm]
theorem fits_iff {p q a b : Int} (h : good p q = true) (a0 : 0 ≤ a) (a1 : a ≤ 1099511627776) (b0 : 0 ≤ b) (b1 : b ≤ 1099511627776) : fits p q a b = true ↔ (a * q ≤ b * p ∧ b * q ≤ a * p) := by
  unfold fits
  rw [h, decide_eq_true ⟨a0, a1, b0, b1⟩]; simp
/-- The ways of two clocks that went on by a and b, a time t, its longer and its shorter one. -/
inductive WW (t a b L S : Int) : Prop
  | a : L ≤ a → L ≤ b → t ≤ a → t ≤ b → S ≤ a → S ≤ b → WW t a b L S
  | b : L ≤ a → b < L → t ≤ a → t ≤ b → S ≤ a → S ≤ b → WW t a b L S
  | c : a < L → L ≤ b → t ≤ a → t ≤ b → S ≤ a → S ≤ b → WW t a b L S
  | d : a < L → b < L → t ≤ a → t ≤ b → S ≤ a → S ≤ b → WW t a b L S
  | e : a < L → b < L → a < t → t ≤ b → S ≤ a → WW t a b L S
  | f : a < L → b < L → t ≤ a → b < t → S ≤ b → WW t a b L S
  | g : a < L → b < L → a < t → b < t → WW t a b L S
theorem waits {p q t a b : Int} (h : good p q = true) (t0 : 0 ≤ t) (t1 : t ≤ 1099511627776) (a0 : 0 ≤ a) (a1 : a ≤ 1099511627776) (b0 : 0 ≤ b) (b1 : b ≤ 1099511627776) (hf : fits p q a b = true) :
    WW t a b (longer p q t) (shorter p q t) := by
  obtain ⟨f1, f2⟩ := (fits_iff h a0 a1 b0 b1).1 hf
  have hg := good_of h
  obtain ⟨q1, q2, q3, q4⟩ := hg
  rw [longer_in h t0 t1, shorter_in h t0 t1]
  have A1 := (@up_le p q t ((t * p + q - 1) / q) (by omega)).1 (Int.le_refl _)
  have A2 := (@le_down p q t (t * q / p) (by omega)).1 (Int.le_refl _)
  generalize (t * p + q - 1) / q = L at *
  generalize t * q / p = S at *
  have P0 : 0 < p := by omega
  have Q0 : 0 < q := by omega
  have la : ∀ {x y : Int}, x * p ≤ y * p → x ≤ y := fun h => Int.le_of_mul_le_mul_right h P0
  have mq : ∀ {x y : Int}, x ≤ y → x * q ≤ y * q := fun h => Int.mul_le_mul_of_nonneg_right h (by omega)
  have tL : t ≤ L := by
    have h1 : t * p ≤ L * p := Int.le_trans A1 (by
      by_cases hL : 0 ≤ L
      · exact Int.mul_le_mul_of_nonneg_left q2 hL
      · exfalso
        have h2 : 0 ≤ t * p := Int.mul_nonneg t0 (by omega)
        have h3 : L * q < 0 := Int.mul_neg_of_neg_of_pos (by omega) Q0
        omega)
    exact la h1
  have ab : L ≤ a → t ≤ b := fun c => la (by have := mq c; omega)
  have ba : L ≤ b → t ≤ a := fun c => la (by have := mq c; omega)
  have sb : t ≤ a → S ≤ b := fun c => la (by have := mq c; omega)
  have sa : t ≤ b → S ≤ a := fun c => la (by have := mq c; omega)
  by_cases c1 : L ≤ a
  · have c3 := ab c1
    have c4 : t ≤ a := by omega
    by_cases c2 : L ≤ b
    · exact .a c1 c2 c4 c3 (sa c3) (sb c4)
    · exact .b c1 (by omega) c4 c3 (sa c3) (sb c4)
  · by_cases c2 : L ≤ b
    · have c3 := ba c2
      have c4 : t ≤ b := by omega
      exact .c (by omega) c2 c3 c4 (sa c4) (sb c3)
    · by_cases c3 : t ≤ a <;> by_cases c4 : t ≤ b
      · exact .d (by omega) (by omega) c3 c4 (sa c4) (sb c3)
      · exact .f (by omega) (by omega) c3 (by omega) (sb c3)
      · exact .e (by omega) (by omega) (by omega) c4 (sa c4)
      · exact .g (by omega) (by omega) (by omega) (by omega)
/-- What fits step by step fits as a whole. -/
theorem sums {p q a b x y : Int} (h1 : a * q ≤ b * p ∧ b * q ≤ a * p) (h2 : x * q ≤ y * p ∧ y * q ≤ x * p) : (a + x) * q ≤ (b + y) * p ∧ (b + y) * q ≤ (a + x) * p := by
  rw [Int.add_mul, Int.add_mul, Int.add_mul, Int.add_mul]; omega
end Go.Proofs.Ytkihencimbdoiaa.Rates
