/- Plain mathematics of what a set has not, of what two sets have, and of a shape's spare bits. No program is imported here. -/
import Derived.Test.YtnanclgnjchpeaaM07b
namespace Go.Proofs.Ytnanclgnjchpeaa.Grids
def restB (n s : Nat) : Nat := ofB (fun i => !s.testBit i) n
def bothB (n a b : Nat) : Nat := ofB (fun i => a.testBit i && b.testBit i) n
theorem ofB_congr {f g : Nat → Bool} : ∀ n, (∀ i, i < n → f i = g i) → ofB f n = ofB g n
  | 0, _ => rfl
  | n + 1, h => by unfold ofB; rw [ofB_congr n fun i hi => h i (by omega), h n (by omega)]
theorem ofB_not (f : Nat → Bool) : ∀ n, ofB (fun i => !f i) n + ofB f n + 1 = 2 ^ n
  | 0 => rfl
  | n + 1 => by
    have := ofB_not f n
    unfold ofB
    rw [Nat.pow_succ]
    cases f n <;> simp <;> omega
/-- The next bit from the top, shifted in below. -/
theorem ofB_step (g : Nat → Bool) (n k : Nat) (h : k < n) : ofB (fun j => g (n - (k + 1) + j)) (k + 1) = 2 * ofB (fun j => g (n - k + j)) k + (if g (n - (k + 1)) then 1 else 0) := by
  rw [ofB_front]
  rw [show n - (k + 1) + 0 = n - (k + 1) from rfl, ofB_congr (f := fun i => g (n - (k + 1) + (i + 1))) (g := fun j => g (n - k + j)) k fun i _ => by rw [show n - (k + 1) + (i + 1) = n - k + i by omega]]
theorem with_eq (n a b w : Nat) (h : b = restB n a) : ofB (fun _ => true) n = bothB n (restB n b) (restB n w) + restOr n a w := by
  subst h
  have e : bothB n (restB n (restB n a)) (restB n w) = ofB (fun i => a.testBit i && !w.testBit i) n := by
    apply ofB_congr
    intro i hi
    unfold restB
    rw [ofB_bit, ofB_bit, ofB_bit, decide_eq_true hi]; simp
  rw [e]
  have h1 := ofB_not (fun i => a.testBit i && !w.testBit i) n
  have h2 := ofB_not (fun _ => true) n
  have h3 : ofB (fun i => !(a.testBit i && !w.testBit i)) n = restOr n a w := ofB_congr _ fun i _ => by simp
  have h4 : ofB (fun _ => !true) n = 0 := by
    clear h1 h2 h3 e
    induction n with
    | zero => rfl
    | succ n ih => unfold ofB; rw [ih]; rfl
  rw [h3] at h1
  rw [h4] at h2
  omega
theorem restB_zero (n : Nat) : restB n 0 = ofB (fun _ => true) n := ofB_congr _ fun i _ => by simp
theorem restB_all (n : Nat) : restB n 0 + 1 = 2 ^ n := by
  have h := ofB_not (fun i => (0 : Nat).testBit i) n
  have h2 : ofB (fun i => (0 : Nat).testBit i) n = 0 := by
    clear h
    induction n with
    | zero => rfl
    | succ n ih => unfold ofB; rw [ih]; simp
  unfold restB
  omega
theorem restB_lt (n s : Nat) : restB n s < 2 ^ n := ofB_lt _ _
theorem bothB_lt (n a b : Nat) : bothB n a b < 2 ^ n := ofB_lt _ _
theorem p12 {n k : Nat} (h : n ≤ 12) (hk : k < 2 ^ n) : k < 4096 := Nat.lt_of_lt_of_le hk (Nat.pow_le_pow_right (n := 2) (by decide) h)
/-- No bit from n on: below 2^n. -/
theorem high_none {W n : Nat} (hW : W < 4294967296) (h : ∀ j, n ≤ j → j < 32 → W.testBit j = false) : W / 2 ^ n = 0 := by
  apply Nat.eq_of_testBit_eq
  intro i
  rw [Nat.testBit_div_two_pow, Nat.zero_testBit]
  rcases Nat.lt_or_ge (i + n) 32 with h1 | h1
  · exact h _ (by omega) h1
  · exact Nat.testBit_lt_two_pow (Nat.lt_of_lt_of_le hW (Nat.pow_le_pow_right (n := 2) (by decide) h1))
theorem high_some {W n j : Nat} (h1 : n ≤ j) (h : W.testBit j = true) : ¬ W / 2 ^ n = 0 := by
  intro e
  have : (W / 2 ^ n).testBit (j - n) = W.testBit j := by rw [Nat.testBit_div_two_pow]; congr 1; omega
  rw [e, h] at this
  simp at this
end Go.Proofs.Ytnanclgnjchpeaa.Grids
