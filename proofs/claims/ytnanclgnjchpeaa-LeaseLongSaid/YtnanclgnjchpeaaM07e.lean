/- Plain mathematics of sets as lists of nodes. No program is imported here. -/
import Derived.Test.YtnanclgnjchpeaaM09
import Derived.Lib.TrailingZeros
namespace Go.Proofs.Ytnanclgnjchpeaa.Grids
set_option linter.unusedVariables false
/-- Those of the n numbers from j on that have a mark. -/
def bl (f : Nat → Bool) : Nat → Nat → List Nat
  | 0, _ => []
  | n + 1, j => if f j then j :: bl f n (j + 1) else bl f n (j + 1)
theorem bl_congr {f g : Nat → Bool} : ∀ n j, (∀ i, j ≤ i → f i = g i) → bl f n j = bl g n j
  | 0, _, _ => rfl
  | n + 1, j, h => by unfold bl; rw [h j (Nat.le_refl _), bl_congr n (j + 1) fun i hi => h i (by omega)]
theorem bl_head {f g : Nat → Bool} {k : Nat} (hf : ∀ i, i < k → f i = false) (hk : f k = true) (hg : ∀ i, g i = (f i && decide (i ≠ k))) : ∀ n j, j ≤ k → k < j + n → bl f n j = k :: bl g n j
  | 0, j, h1, h2 => by omega
  | n + 1, j, h1, h2 => by
    rcases Nat.lt_or_ge j k with h | h
    · unfold bl
      rw [hf j h, hg j, hf j h]
      simp only [Bool.false_and, Bool.false_eq_true, if_false]
      exact bl_head hf hk hg n (j + 1) (by omega) (by omega)
    · obtain rfl : j = k := by omega
      unfold bl
      rw [hk, hg j]
      simp only [ne_eq, not_true_eq_false, decide_false, Bool.and_false, Bool.false_eq_true, if_true, if_false]
      rw [bl_congr (f := f) (g := g) n (j + 1) fun i hi => by rw [hg i, decide_eq_true (by omega : i ≠ j), Bool.and_true]]
theorem bl_mem {f : Nat → Bool} : ∀ n j i, i ∈ bl f n j ↔ j ≤ i ∧ i < j + n ∧ f i = true
  | 0, j, i => by simp [bl]; omega
  | n + 1, j, i => by
    unfold bl
    have ih := @bl_mem f n (j + 1) i
    by_cases h : f j = true
    · rw [if_pos h, List.mem_cons, ih]
      constructor
      · rintro (rfl | ⟨h1, h2, h3⟩)
        · exact ⟨by omega, by omega, h⟩
        · exact ⟨by omega, by omega, h3⟩
      · rintro ⟨h1, h2, h3⟩
        by_cases e : i = j
        · exact .inl e
        · exact .inr ⟨by omega, by omega, h3⟩
    · rw [if_neg h, ih]
      constructor
      · rintro ⟨h1, h2, h3⟩; exact ⟨by omega, by omega, h3⟩
      · rintro ⟨h1, h2, h3⟩
        by_cases e : i = j
        · subst e; exact absurd h3 h
        · exact ⟨by omega, by omega, h3⟩
theorem bl_up {f : Nat → Bool} : ∀ n j, (bl f n j).Pairwise (· < ·)
  | 0, _ => List.Pairwise.nil
  | n + 1, j => by
    unfold bl
    split
    · exact List.Pairwise.cons (fun i hi => by have := (bl_mem n (j + 1) i).1 hi; omega) (bl_up n (j + 1))
    · exact bl_up n (j + 1)
theorem bl_len {f : Nat → Bool} : ∀ n j, (bl f n j).length = cnt (fun i => f (j + i)) n
  | 0, _ => rfl
  | n + 1, j => by
    have h := cnt_add (fun i => f (j + i)) 1 n
    rw [Nat.add_comm 1 n] at h
    rw [h]
    have e : cnt (fun i => f (j + (1 + i))) n = cnt (fun i => f (j + 1 + i)) n := cnt_congr n fun i _ => by rw [Nat.add_assoc]
    rw [e, ← bl_len n (j + 1)]
    have e1 : cnt (fun i => f (j + i)) 1 = if f j then 1 else 0 := by simp [cnt]
    rw [e1]
    show (if f j then j :: bl f n (j + 1) else bl f n (j + 1)).length = _
    cases f j
    · simp
    · simp; omega
/-- The nodes of a set in order. -/
def bitsL (x : Nat) : List Nat := bl x.testBit 32 0
theorem bitsL_zero : bitsL 0 = [] := by
  have : ∀ n j, bl (Nat.testBit 0) n j = [] := by
    intro n
    induction n with
    | zero => intro j; rfl
    | succ n ih => intro j; unfold bl; rw [Nat.zero_testBit]; simp [ih]
  exact this 32 0
theorem bitsL_len (x : Nat) : (bitsL x).length = cnt x.testBit 32 := by
  unfold bitsL
  rw [bl_len]
  exact cnt_congr 32 fun i _ => by rw [Nat.zero_add]
theorem bitsL_mem {x i : Nat} (h : i ∈ bitsL x) : i < 32 ∧ x.testBit i = true := by
  have := (bl_mem 32 0 i).1 h
  exact ⟨by omega, this.2.2⟩
theorem bitsL_up (x : Nat) : (bitsL x).Pairwise (· < ·) := bl_up 32 0
theorem less_bit {k m : Nat} (i : Nat) : ((2 ^ k * (2 * m + 1)) &&& (2 ^ k * (2 * m + 1) - 1)).testBit i = ((2 ^ k * (2 * m + 1)).testBit i && decide (i ≠ k)) := by
  have e : 2 ^ k * (2 * m + 1) - 1 = 2 ^ k * (2 * m) + (2 ^ k - 1) := by
    have : 0 < 2 ^ k := Nat.two_pow_pos k
    rw [Nat.mul_add, Nat.mul_one]; omega
  have h0 : 2 ^ k - 1 < 2 ^ k := by have : 0 < 2 ^ k := Nat.two_pow_pos k; omega
  have e1 : (2 ^ k * (2 * m + 1)).testBit i = if i < k then false else (2 * m + 1).testBit (i - k) := by
    have := Nat.testBit_two_pow_mul_add (2 * m + 1) (Nat.two_pow_pos k) i
    rw [Nat.add_zero] at this
    rw [this]; split
    · exact Nat.zero_testBit i
    · rfl
  rw [Nat.testBit_and, e, Nat.testBit_two_pow_mul_add _ h0, e1]
  rcases Nat.lt_trichotomy i k with h | h | h
  · rw [if_pos h]; rfl
  · subst h
    rw [if_neg (Nat.lt_irrefl _), if_neg (Nat.lt_irrefl _), Nat.sub_self, Nat.testBit_zero, Nat.testBit_zero]
    simp
  · rw [if_neg (by omega), if_neg (by omega)]
    obtain ⟨d, hd⟩ : ∃ d, i - k = d + 1 := ⟨i - k - 1, by omega⟩
    rw [hd, Nat.testBit_succ, Nat.testBit_succ, show (2 * m + 1) / 2 = m by omega, show 2 * m / 2 = m by omega, decide_eq_true (by omega : i ≠ k)]
    simp
/-- The least node first, then the others. -/
theorem bitsL_step {x : Nat} (h0 : x ≠ 0) (hx : x < 4294967296) : bitsL x = Lib.ctz 32 x :: bitsL (x &&& (x - 1)) := by
  obtain ⟨m, hm, hk⟩ := Lib.ctzFrom_spec 32 x (by omega) hx
  have e : Lib.ctz 32 x = Lib.ctzFrom 32 x := by unfold Lib.ctz; rw [if_neg h0]
  rw [e]
  generalize Lib.ctzFrom 32 x = k at *
  subst hm
  refine bl_head (fun i hi => ?_) ?_ (fun i => less_bit i) 32 0 (by omega) (by omega)
  · have := Nat.testBit_two_pow_mul_add (2 * m + 1) (Nat.two_pow_pos k) i
    rw [Nat.add_zero] at this
    rw [this, if_pos hi]; exact Nat.zero_testBit i
  · have := Nat.testBit_two_pow_mul_add (2 * m + 1) (Nat.two_pow_pos k) k
    rw [Nat.add_zero] at this
    rw [this, if_neg (Nat.lt_irrefl _), Nat.sub_self, Nat.testBit_zero]
    simp
theorem snoc_ind {α : Type} {P : List α → Prop} (h0 : P []) (hs : ∀ l x, P l → P (l ++ [x])) (l : List α) : P l := by
  have : ∀ r : List α, P r.reverse := by
    intro r
    induction r with
    | nil => exact h0
    | cons x r ih => rw [List.reverse_cons]; exact hs _ _ ih
  have h := this l.reverse
  rwa [List.reverse_reverse] at h
/-- A node's own set; none of a number that is no node. -/
def one (n : Int) : Nat := if 0 ≤ n ∧ n < 32 then 2 ^ n.toNat else 0
def setL (l : List Int) : Nat := l.foldl (fun a n => a ||| one n) 0
theorem one_lt (n : Int) : one n < 4294967296 := by
  unfold one; split
  · exact Nat.lt_of_lt_of_le (Nat.pow_lt_pow_right (by decide) (show n.toNat < 32 by omega)) (by decide)
  · decide
theorem setL_snoc (l : List Int) (n : Int) : setL (l ++ [n]) = setL l ||| one n := by unfold setL; rw [List.foldl_append]; rfl
theorem setL_lt (l : List Int) : setL l < 4294967296 := by
  refine snoc_ind (P := fun l => setL l < 4294967296) (by decide) (fun l n ih => ?_) l
  rw [setL_snoc]; exact Nat.or_lt_two_pow (n := 32) ih (one_lt n)
theorem one_bit {n : Int} {i : Nat} : (one n).testBit i = decide (0 ≤ n ∧ n < 32 ∧ n = (i : Int)) := by
  unfold one; split
  · rename_i h
    rw [Nat.testBit_two_pow, decide_eq_decide]; omega
  · rename_i h
    rw [Nat.zero_testBit, eq_comm, decide_eq_false_iff_not]; omega
theorem setL_bit (l : List Int) (i : Nat) : (setL l).testBit i = true ↔ i < 32 ∧ (i : Int) ∈ l := by
  refine snoc_ind (P := fun l => (setL l).testBit i = true ↔ i < 32 ∧ (i : Int) ∈ l) (by simp [setL]) (fun l n ih => ?_) l
  · rw [setL_snoc, Nat.testBit_or, Bool.or_eq_true, ih, one_bit, decide_eq_true_eq, List.mem_append, List.mem_singleton]
    constructor
    · rintro (⟨h1, h2⟩ | ⟨h1, h2, h3⟩)
      · exact ⟨h1, .inl h2⟩
      · exact ⟨by omega, .inr h3.symm⟩
    · rintro ⟨h1, h2 | h2⟩
      · exact .inl ⟨h1, h2⟩
      · exact .inr ⟨by omega, by omega, h2.symm⟩
theorem cnt_setL (l : List Int) : cnt (setL l).testBit 32 ≤ l.length := by
  refine snoc_ind (P := fun l => cnt (setL l).testBit 32 ≤ l.length) (by decide +kernel) (fun l n ih => ?_) l
  · rw [setL_snoc, List.length_append]
    have h := @cnt_one (setL l).testBit (setL l ||| one n).testBit n.toNat (fun i hi => by
      rw [Nat.testBit_or, one_bit, decide_eq_false (by omega), Bool.or_false]) 32
    have h2 : (if n.toNat < 32 then 1 else 0) ≤ 1 := by split <;> omega
    simp only [List.length_singleton]
    omega
/-- A set is that of its nodes. -/
theorem setL_bitsL {x : Nat} (hx : x < 4294967296) : setL ((bitsL x).map fun n : Nat => (n : Int)) = x := by
  apply Nat.eq_of_testBit_eq
  intro i
  rw [Bool.eq_iff_iff, setL_bit]
  constructor
  · rintro ⟨h1, h2⟩
    obtain ⟨j, hj, e⟩ := List.mem_map.1 h2
    obtain rfl : j = i := by omega
    exact (bitsL_mem hj).2
  · intro h
    have hlt : i < 32 := by
      apply Nat.lt_of_not_le
      intro hle
      rw [Nat.testBit_lt_two_pow (Nat.lt_of_lt_of_le hx (Nat.pow_le_pow_right (n := 2) (by decide) hle))] at h
      cases h
    exact ⟨hlt, List.mem_map.2 ⟨i, (bl_mem 32 0 i).2 ⟨by omega, by omega, h⟩, rfl⟩⟩
end Go.Proofs.Ytnanclgnjchpeaa.Grids
